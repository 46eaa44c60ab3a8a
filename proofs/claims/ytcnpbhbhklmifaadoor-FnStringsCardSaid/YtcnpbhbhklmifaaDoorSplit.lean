/-
  The parts of a text between bytes: plain lists; contracts of spec.l1Split and strings.Cut at one byte over this translation. Conditions: stated at each theorem.
-/
import Derived.Test.YtcnpbhbhklmifaaDoorSeal
import Derived.Laws.AppendOwn
import Derived.Laws.OwnMore
import Derived.Maps.AppendAt
namespace Go.Proofs.YtcnpbhbhklmifaaDoor
open Go.RowKit Go.Sort

/-! ### The parts of a list of bytes -/
def splitStep (b : UInt8) (acc : List (List UInt8) × List UInt8) (c : UInt8) : List (List UInt8) × List UInt8 :=
  if c = b then (acc.1 ++ [acc.2], []) else (acc.1, acc.2 ++ [c])
def splitP (b : UInt8) (l : List UInt8) : List (List UInt8) × List UInt8 := l.foldl (splitStep b) ([], [])
/-- The parts of l between the bytes b. -/
def splitL (b : UInt8) (l : List UInt8) : List (List UInt8) := (splitP b l).1 ++ [(splitP b l).2]
theorem splitP_hit (b : UInt8) (l : List UInt8) {c : UInt8} (h : c = b) : splitP b (l ++ [c]) = ((splitP b l).1 ++ [(splitP b l).2], []) := by
  unfold splitP; rw [List.foldl_append]; simp [splitStep, h]
theorem splitP_miss (b : UInt8) (l : List UInt8) {c : UInt8} (h : c ≠ b) : splitP b (l ++ [c]) = ((splitP b l).1, (splitP b l).2 ++ [c]) := by
  unfold splitP; rw [List.foldl_append]; simp [splitStep, h]
theorem splitP_len (b : UInt8) (l : List UInt8) : ∀ acc, (l.foldl (splitStep b) acc).1.length ≤ acc.1.length + l.length := by
  induction l with
  | nil => intro acc; simp
  | cons c l ih =>
    intro acc
    have h1 := ih (splitStep b acc c)
    have h2 : (splitStep b acc c).1.length ≤ acc.1.length + 1 := by
      unfold splitStep; split <;> simp
    simp only [List.foldl_cons, List.length_cons]
    omega
/-- The first part, by takeWhile. -/
theorem split_head (b : UInt8) (l : List UInt8) : ∀ (cur : List UInt8), (b ∉ l → l.foldl (splitStep b) ([], cur) = ([], cur ++ l)) ∧
    ∀ done : List (List UInt8), ∃ r, ((l.foldl (splitStep b) (done, cur)).1 ++ [(l.foldl (splitStep b) (done, cur)).2]) = done ++ (cur ++ l.takeWhile (fun c => c != b)) :: r := by
  induction l with
  | nil => intro cur; exact ⟨fun _ => by simp, fun done => ⟨[], by simp⟩⟩
  | cons c l ih =>
    intro cur
    by_cases h : c = b
    · subst h
      refine ⟨fun hn => absurd (List.mem_cons_self ..) hn, fun done => ?_⟩
      obtain ⟨r, hr⟩ := (ih []).2 (done ++ [cur])
      refine ⟨([] ++ l.takeWhile (fun x => x != c)) :: r, ?_⟩
      simp only [List.foldl_cons, splitStep, if_true, List.takeWhile_cons, bne_self_eq_false, Bool.false_eq_true, if_false, List.append_nil]
      rw [hr]
      simp
    · refine ⟨fun hn => ?_, fun done => ?_⟩
      · have := (ih (cur ++ [c])).1 (fun hm => hn (List.mem_cons_of_mem _ hm))
        simp only [List.foldl_cons, splitStep, if_neg h]
        rw [this]
        simp
      · obtain ⟨r, hr⟩ := (ih (cur ++ [c])).2 done
        refine ⟨r, ?_⟩
        have hb : (c != b) = true := by simpa using h
        simp only [List.foldl_cons, splitStep, if_neg h, List.takeWhile_cons, hb, if_true]
        rw [hr]
        simp
/-- The text before the first byte b. -/
def headB (b : UInt8) (s : ByteArray) : ByteArray := ⟨(s.data.toList.takeWhile (fun c => c != b)).toArray⟩
theorem splitL_head (b : UInt8) (l : List UInt8) : ∃ r, splitL b l = l.takeWhile (fun c => c != b) :: r := by
  obtain ⟨r, hr⟩ := (split_head b l []).2 []
  exact ⟨r, by simpa [splitL, splitP] using hr⟩
theorem tw_no (b : UInt8) : ∀ l : List UInt8, b ∉ l.takeWhile (fun c => c != b)
  | [] => by simp
  | c :: l => by
    by_cases h : c = b
    · simp [h]
    · have hb : (c != b) = true := by simpa using h
      simp only [List.takeWhile_cons, hb, if_true, List.mem_cons, not_or]
      exact ⟨fun e => h e.symm, tw_no b l⟩
theorem tw_all (b : UInt8) : ∀ l : List UInt8, b ∉ l → l.takeWhile (fun c => c != b) = l
  | [], _ => rfl
  | c :: l, h => by
    have h1 : c ≠ b := fun e => h (by simp [e])
    have hb : (c != b) = true := by simpa using h1
    simp only [List.takeWhile_cons, hb, if_true]
    rw [tw_all b l (fun hm => h (List.mem_cons_of_mem _ hm))]
theorem headB_no (b : UInt8) (s : ByteArray) : b ∉ (headB b s).data.toList := by
  intro h
  have : b ∈ s.data.toList.takeWhile (fun c => c != b) := by simpa [headB] using h
  exact tw_no b _ this
theorem headB_size (b : UInt8) (s : ByteArray) : (headB b s).size ≤ s.size := by
  have h1 : (s.data.toList.takeWhile (fun c => c != b)).length ≤ s.data.toList.length := (List.takeWhile_sublist _).length_le
  have h2 : (headB b s).size = (s.data.toList.takeWhile (fun c => c != b)).length := List.size_toArray
  have h3 : s.data.toList.length = s.size := Array.length_toList
  omega
theorem headB_all (b : UInt8) (s : ByteArray) (h : b ∉ s.data.toList) : headB b s = s := by
  have : s.data.toList.takeWhile (fun c => c != b) = s.data.toList := tw_all b _ h
  simp [headB, this]
theorem takeWhile_take (b : UInt8) : ∀ (l : List UInt8) (o : Nat), l[o]? = some b → (∀ k, k < o → l[k]? ≠ some b) → l.takeWhile (fun c => c != b) = l.take o
  | [], o, h, _ => by simp at h
  | c :: l, 0, h, _ => by
    simp only [List.getElem?_cons_zero, Option.some.injEq] at h
    simp [h]
  | c :: l, o + 1, h, hk => by
    have hc : c ≠ b := fun e => hk 0 (by omega) (by simp [e])
    have hb : (c != b) = true := by simpa using hc
    simp only [List.takeWhile_cons, hb, if_true, List.take_succ_cons]
    rw [takeWhile_take b l o (by simpa using h) (fun k hlt => by have := hk (k + 1) (by omega); simpa using this)]
theorem headB_extract (b : UInt8) (s : ByteArray) (o : Nat) (h : Lib.indexByte s.data.toList b = o) : headB b s = s.extract 0 o := by
  obtain ⟨h1, h2⟩ := Lib.indexByte_some h
  apply ByteArray.ext
  apply Array.toList_inj.1
  rw [Lib.extract_data]
  simp [headB, takeWhile_take b _ o h1 h2]

/-! ### strings.Cut at one byte: what stands before it -/
theorem idx_one (s : ByteArray) (c : UInt8) (i : Int) (hi : Lib.indexByte s.data.toList c = i) (w : World) :
    Calls Tryd.prog 50 #[.string s, .string ⟨#[c]⟩] w fun e w' => e = .returned (.int .i64 i) ∧ w = w' :=
  (Tryd.stringslite_Index_one s c w).mono fun e w' ⟨h1, h2⟩ => ⟨by rw [h1, hi], h2.symm⟩
theorem cut_in_no (s : ByteArray) (c : UInt8) (w : World) (h : c ∉ s.data.toList) :
    Calls Tryd.prog 43 #[.string s, .string ⟨#[c]⟩] w fun e w' => e = .returned (.tuple #[.string s, .string ⟨#[]⟩, .bool false]) ∧ ∃ k, w' = w.drewN k := by
  have hi : Lib.indexByte s.data.toList c = -1 := by
    have h1 := Lib.indexByte_ge s.data.toList c
    have h2 : ¬ 0 ≤ Lib.indexByte s.data.toList c := fun h0 => h ((mem_indexByte _ _).2 h0)
    omega
  have HI := Lib.hid hi
  clear h hi
  go_enter Tryd.func43, Tryd.ntmps43
  go_wp2_with (go_at_call 50; refine (idx_one s c _ HI.out _).mono ?_; rintro e w' ⟨rfl, rfl⟩)
  go_ret3
  exact ⟨rfl, 0, by rw [World.drewN_zero]⟩
theorem cut_in_yes (s : ByteArray) (c : UInt8) (w : World) (o : Nat) (h : Lib.indexByte s.data.toList c = o) (hs : s.size ≤ 1048576) :
    Calls Tryd.prog 43 #[.string s, .string ⟨#[c]⟩] w fun e w' => e = .returned (.tuple #[.string (s.extract 0 o), .string (s.extract (o + 1) s.size), .bool true]) ∧ ∃ k, w' = w.drewN k := by
  have hlt : o < s.size := by
    have h1 := (Lib.indexByte_some h).1
    have h3 : s.data.toList.length = s.size := Array.length_toList
    rw [← h3]
    exact (List.getElem?_eq_some_iff.1 h1).1
  have HI := Lib.hid h
  clear h
  have e1 : IntKind.i64.wrap ((o : Int) + 1) = (o : Int) + 1 := IntWalk.i64_in _ (by omega)
  have e2 : ((o : Int) + 1).toNat = o + 1 := by omega
  go_enter Tryd.func43, Tryd.ntmps43
  go_wp2_with (go_at_call 50; refine (idx_one s c _ HI.out _).mono ?_; rintro e w' ⟨rfl, rfl⟩)
  go_quiet (fail)
  go_wp2
  go_ret3
  exact ⟨rfl, _, rfl⟩
theorem cut_no (s : ByteArray) (c : UInt8) (w : World) (h : c ∉ s.data.toList) :
    Calls Tryd.prog 35 #[.string s, .string ⟨#[c]⟩] w fun e w' => e = .returned (.tuple #[.string s, .string ⟨#[]⟩, .bool false]) ∧ ∃ k, w' = w.drewN k := by
  have H := Lib.hid h
  clear h
  go_enter Tryd.func35, Tryd.ntmps35
  go_wp2_with (go_at_call 43; refine (cut_in_no s c _ H.out).mono ?_; rintro e w' ⟨rfl, k, rfl⟩)
  go_ret3
  exact ⟨rfl, _, rfl⟩
theorem cut_yes (s : ByteArray) (c : UInt8) (w : World) (o : Nat) (h : Lib.indexByte s.data.toList c = o) (hs : s.size ≤ 1048576) :
    Calls Tryd.prog 35 #[.string s, .string ⟨#[c]⟩] w fun e w' => e = .returned (.tuple #[.string (s.extract 0 o), .string (s.extract (o + 1) s.size), .bool true]) ∧ ∃ k, w' = w.drewN k := by
  have H := Lib.hid h
  clear h
  go_enter Tryd.func35, Tryd.ntmps35
  go_wp2_with (go_at_call 43; refine (cut_in_yes s c _ o H.out hs).mono ?_; rintro e w' ⟨rfl, k, rfl⟩)
  go_ret3
  exact ⟨rfl, _, rfl⟩

/-! ### spec.l1Split -/
def strV (p : List UInt8) : Value := .string ⟨p.toArray⟩
theorem info9 : (Tryd.prog.info? 9).map (fun i => (i.zero, i.size, i.bytes)) = some (some (.string ⟨#[]⟩), 1, 16) := by kernel_rfl
/-- The full parts of the first k bytes. -/
def partsAt (b : UInt8) (s : ByteArray) (k : Nat) : List (List UInt8) := (splitP b (s.data.toList.take k)).1
theorem partsAt_len (b : UInt8) (s : ByteArray) (k : Nat) : (partsAt b s k).length ≤ k := by
  have h1 := splitP_len b (s.data.toList.take k) ([], [])
  have h2 : (s.data.toList.take k).length ≤ k := List.length_take_le _ _
  have h3 : (([], []) : List (List UInt8) × List UInt8).1.length = 0 := rfl
  unfold partsAt splitP
  omega
/-- The last part of the first k bytes begins at f. -/
def LastAt (b : UInt8) (s : ByteArray) (k f : Nat) : Prop := (splitP b (s.data.toList.take k)).2 = (s.data.toList.take k).drop f
theorem piece_eq (s : ByteArray) (f k : Nat) : Value.string (s.extract f k) = strV ((s.data.toList.take k).drop f) := by
  unfold strV
  congr 1
  apply ByteArray.ext
  apply Array.toList_inj.1
  rw [Lib.extract_data]
  simp [List.drop_take]
theorem parts_hit (b : UInt8) (s : ByteArray) (k f : Nat) (hlt : k < s.size) (h : s[k] = b) (hl : LastAt b s k f) :
    partsAt b s (k + 1) = partsAt b s k ++ [(s.data.toList.take k).drop f] ∧ LastAt b s (k + 1) (k + 1) := by
  unfold partsAt LastAt at *
  rw [take_snoc s k hlt, splitP_hit b _ h, hl]
  refine ⟨rfl, ?_⟩
  have : (List.take k s.data.toList ++ [s[k]]).length ≤ k + 1 := by
    simp only [List.length_append, List.length_take, List.length_cons, List.length_nil]
    omega
  rw [List.drop_of_length_le this]
theorem parts_miss (b : UInt8) (s : ByteArray) (k f : Nat) (hlt : k < s.size) (hf : f ≤ k) (h : s[k] ≠ b) (hl : LastAt b s k f) :
    partsAt b s (k + 1) = partsAt b s k ∧ LastAt b s (k + 1) f := by
  unfold partsAt LastAt at *
  rw [take_snoc s k hlt, splitP_miss b _ h, hl]
  refine ⟨rfl, ?_⟩
  have h3 : s.data.toList.length = s.size := Array.length_toList
  have : f ≤ (List.take k s.data.toList).length := by simp only [List.length_take]; omega
  rw [List.drop_append_of_le_length this]
theorem parts_end (b : UInt8) (s : ByteArray) (f : Nat) (hl : LastAt b s s.size f) :
    splitL b s.data.toList = partsAt b s s.size ++ [s.data.toList.drop f] := by
  have h3 : s.data.toList.length = s.size := Array.length_toList
  unfold partsAt LastAt splitL at *
  rw [List.take_of_length_le (by omega)] at *
  rw [hl]

/-- What spec.l1Split hands back: a slice that owns the parts. -/
def SplitPost (b : UInt8) (s : ByteArray) (w : World) (e : Ending) (w' : World) : Prop :=
  ∃ v, e = .returned v ∧ w'.ownsRow w.heap.size 9 1 v (splitL b s.data.toList).length ((splitL b s.data.toList).map strV) ∧ Below w.heap.size w w'

/-- One more part, appended: the row behind it. -/
theorem row_hit {w1 : World} {B : Nat} {v : Value} (b : UInt8) (s : ByteArray) (k f : Nat) (hlt : k < s.size) (h : s[k] = b) (hl : LastAt b s k f)
    (hr : w1.ownsRow B 9 1 v ((partsAt b s k).length + 1) ((partsAt b s k).map strV ++ [.string (s.extract f k)])) :
    w1.ownsRow B 9 1 v (partsAt b s (k + 1)).length ((partsAt b s (k + 1)).map strV) := by
  rw [(parts_hit b s k f hlt h hl).1]
  rw [piece_eq] at hr
  simpa using hr
theorem row_end {w1 : World} {B : Nat} {v : Value} (b : UInt8) (s : ByteArray) (f : Nat) (hl : LastAt b s s.size f)
    (hr : w1.ownsRow B 9 1 v ((partsAt b s s.size).length + 1) ((partsAt b s s.size).map strV ++ [.string (s.extract f s.size)])) :
    w1.ownsRow B 9 1 v (splitL b s.data.toList).length ((splitL b s.data.toList).map strV) := by
  have h3 : s.data.toList.length = s.size := Array.length_toList
  rw [parts_end b s f hl]
  rw [piece_eq, List.take_of_length_le (by omega)] at hr
  simpa using hr
set_option maxHeartbeats 800000 in
theorem split_any (s : ByteArray) (b : UInt8) (n : Int) (hn : n = (b.toNat : Int)) (w : World) (hs : s.size ≤ 4000) :
    Calls Tryd.prog 36 #[.string s, .int .u8 n] w (SplitPost b s w) := by
  subst hn
  obtain ⟨i0, hi, hz0, hz1, hz2⟩ := info_parts info9
  go_enter Tryd.func36, Tryd.ntmps36
  go_wp2
  go_loopw [5, 6, 7] (fun v f i wr => ∃ k f' : Nat, k ≤ s.size ∧ f' ≤ k ∧ i = .int .i64 k ∧ f = .int .i64 f' ∧ Hid (LastAt b s k f') ∧ wr.ownsRow w.heap.size 9 1 v (partsAt b s k).length ((partsAt b s k).map strV) ∧ Below w.heap.size w wr)
    (fun _ _ i _ => s.size - (intOf i).toNat)
  case atStart => exact ⟨0, 0, Nat.zero_le _, Nat.zero_le _, rfl, rfl, by simp [Hid, LastAt, splitP], World.ownsRow_made w #[] 0 (Nat.le_refl _) (by simp [maxLen]) rfl, (Below.refl _ w).alloc (Nat.le_refl _) _⟩
  case round =>
    obtain ⟨k, f', hk, hf, rfl, rfl, hl, hown, hB⟩ := hrel
    have hp := partsAt_len b s k
    by_cases hlt : k < s.size
    · by_cases he : s[k] = b
      · have hd : ((s[k].toNat : Int) == (b.toNat : Int)) = true := by rw [he]; simp
        have HR := Lib.hid (fun (w1 : World) (v : Value) => row_hit (w1 := w1) (B := w.heap.size) (v := v) b s k f' hlt he hl.out)
        have HM := Lib.hid (parts_hit b s k f' hlt he hl.out).2
        clear he
        go_wp2_with (at_builtin; refine wpList_append_own _ rfl _ _ 44 rfl w.heap.size 9 i0 (.string ⟨#[]⟩) 1 16 Tryd.underlying44 hi hz0 hz1 hz2 rfl (by decide) _ _ _ rfl (hown.alloc _) ⟨wr.heap.size, 0, none⟩ 1 1 [.string (s.extract f' k)] rfl rfl (cell_one_new _ _ _) (by simp [Value.oneCell']) (by unfold maxLen; omega) (by omega) (by have := hB.size; simp; omega) ?_; intro v' w1 hown' hgrow _; have hB1 := Lib.hid ((hB.alloc hB.size _).grown hgrow (by have := hB.size; simp; omega) (fun j hj => (hown.lt j hj).1)); have hr1 := Lib.hid (HR.out w1 v' hown'); clear hown' hgrow)
        go_roundw
        case rel => exact ⟨k + 1, k + 1, by omega, by omega, by go_num, by go_num, HM, hr1.out, hB1.out⟩
        case measure => simp [intOf]; omega
      · have hd : ((s[k].toNat : Int) == (b.toNat : Int)) = false := by
          have : s[k].toNat ≠ b.toNat := fun e => he (UInt8.toNat_inj.1 e)
          exact beq_eq_false_iff_ne.2 (by omega)
        have HM := Lib.hid (parts_miss b s k f' hlt hf he hl.out)
        clear he
        go_wp2
        go_roundw
        case rel => exact ⟨k + 1, f', by omega, by omega, by go_num, rfl, HM.out.2, by rw [HM.out.1]; exact hown, hB⟩
        case measure => simp [intOf]; omega
    · obtain rfl : k = s.size := by omega
      have HR := Lib.hid (fun (w1 : World) (v : Value) => row_end (w1 := w1) (B := w.heap.size) (v := v) b s f' hl.out)
      go_wp2_with (at_builtin; refine wpList_append_own _ rfl _ _ 44 rfl w.heap.size 9 i0 (.string ⟨#[]⟩) 1 16 Tryd.underlying44 hi hz0 hz1 hz2 rfl (by decide) _ _ _ rfl (hown.alloc _) ⟨wr.heap.size, 0, none⟩ 1 1 [.string (s.extract f' s.size)] rfl rfl (cell_one_new _ _ _) (by simp [Value.oneCell']) (by unfold maxLen; omega) (by omega) (by have := hB.size; simp; omega) ?_; intro v' w1 hown' hgrow _; have hB1 := Lib.hid ((hB.alloc hB.size _).grown hgrow (by have := hB.size; simp; omega) (fun j hj => (hown.lt j hj).1)); have hr1 := Lib.hid (HR.out w1 v' hown'); clear hown' hgrow)
      go_ret
      exact ⟨_, rfl, hr1.out, hB1.out⟩
end Go.Proofs.YtcnpbhbhklmifaaDoor
