/-
  Plain facts on bytes and on the parts of a text; contracts of spec.l1Stands, strings.Contains at one byte and spec.l1Split over this translation. Conditions: stated at each theorem.
-/
import Derived.Test.YtcnpbhbhklmifaaRows
import Derived.Test.YtcnpbhbhklmifaaShelf
import Derived.WalkKit
import Derived.Lib.Hide
import Derived.Lib.IndexLaws
import Derived.Lib.IndexBytes
import Derived.Deep.QuietTactic
import Derived.BigQuiet
import Derived.IntWalk
import Derived.Sort.Grow
import Derived.Laws.AppendOwn
import Derived.Laws.OwnMore
import Derived.Maps.AppendAt
import Derived.RangeFuncBox
namespace Go.Proofs.Ytcnpbhbhklmifaa
open Go.RowKit Go.Sort

theorem below_grow (w : World) (os : Array Obj) : Below w.heap.size w (grow w os) :=
  ⟨rfl, rfl, rfl, by simp, fun _ hk => heap_grow_old w os hk⟩
theorem below_drewN (w : World) (k : Nat) : Below w.heap.size w (w.drewN k) := ⟨rfl, rfl, rfl, Nat.le_refl _, fun _ _ => rfl⟩

theorem take_snoc (s : ByteArray) (k : Nat) (h : k < s.size) : s.data.toList.take (k + 1) = s.data.toList.take k ++ [s[k]] := by
  rw [List.take_succ_eq_append_getElem (by simpa using h)]; rfl
theorem ret_int {k : IntKind} {a b : Int} (h : a = b) : Ending.returned (.int k a) = .returned (.int k b) := by rw [h]
theorem ret_int_true {k : IntKind} {a b : Int} (h : a = b) : Ending.returned (.tuple #[.int k a, .bool true]) = .returned (.tuple #[.int k b, .bool true]) := by rw [h]
theorem ret_bool {a b : Bool} (h : a = b) : Ending.returned (.bool a) = .returned (.bool b) := by rw [h]

/-! ### Does a byte stand in a text? -/
/-- Does the byte b stand in s? -/
def standsB (s : ByteArray) (b : UInt8) : Bool := decide (b ∈ s.data.toList)
set_option maxHeartbeats 400000 in
theorem stands_any (s : ByteArray) (b : UInt8) (n : Int) (hn : n = (b.toNat : Int)) (w : World) (hs : s.size ≤ 1048576) :
    Calls Try.prog 33 #[.string s, .int .u8 n] w fun e w' => e = .returned (.bool (standsB s b)) ∧ w = w' := by
  subst hn
  go_enter Try.func33, Try.ntmps33
  go_wp2
  go_loop [5] (fun i => ∃ k : Nat, k ≤ s.size ∧ i = .int .i64 k ∧ Hid (b ∉ s.data.toList.take k)) (fun i => s.size - (intOf i).toNat)
  case atStart => exact ⟨0, Nat.zero_le _, rfl, by simp [Hid]⟩
  case round =>
    obtain ⟨k, hk, rfl, hno⟩ := hrel
    by_cases hlt : k < s.size
    · by_cases he : s[k] = b
      · have hd : ((s[k].toNat : Int) == (b.toNat : Int)) = true := by rw [he]; simp
        have HM : Hid (b ∈ s.data.toList) := by
          have : b ∈ s.data.toList.take (k + 1) := by rw [take_snoc s k hlt, he]; simp
          exact List.mem_of_mem_take this
        have HD := Lib.hid he
        clear he
        go_wp2
        go_ret
        exact ⟨ret_bool (decide_eq_true HM.out).symm, rfl⟩
      · have hd : ((s[k].toNat : Int) == (b.toNat : Int)) = false := by
          have : s[k].toNat ≠ b.toNat := fun e => he (UInt8.toNat_inj.1 e)
          exact beq_eq_false_iff_ne.2 (by omega)
        have HM : Hid (b ∉ s.data.toList.take (k + 1)) := by
          rw [take_snoc s k hlt]
          intro hm
          rcases List.mem_append.1 hm with h | h
          · exact hno.out h
          · exact he (List.mem_singleton.1 h).symm
        have HD := Lib.hid he
        clear he
        go_wp2
        go_round
        case rel => exact ⟨k + 1, by omega, by go_num, HM⟩
        case measure => simp [intOf]; omega
    · have HM : Hid (b ∉ s.data.toList) := by
        have := hno.out
        rwa [List.take_of_length_le (by simp; omega)] at this
      go_wp2
      go_ret
      exact ⟨ret_bool (decide_eq_false HM.out).symm, rfl⟩
theorem stands_yes (s : ByteArray) (b : UInt8) (n : Int) (hn : n = (b.toNat : Int)) (w : World) (hs : s.size ≤ 1048576) (hm : b ∈ s.data.toList) :
    Calls Try.prog 33 #[.string s, .int .u8 n] w fun e w' => e = .returned (.bool true) ∧ w = w' :=
  (stands_any s b n hn w hs).mono fun e w' ⟨h1, h2⟩ => ⟨by rw [h1, standsB, decide_eq_true hm], h2⟩
theorem stands_no (s : ByteArray) (b : UInt8) (n : Int) (hn : n = (b.toNat : Int)) (w : World) (hs : s.size ≤ 1048576) (hm : b ∉ s.data.toList) :
    Calls Try.prog 33 #[.string s, .int .u8 n] w fun e w' => e = .returned (.bool false) ∧ w = w' :=
  (stands_any s b n hn w hs).mono fun e w' ⟨h1, h2⟩ => ⟨by rw [h1, standsB, decide_eq_false hm], h2⟩
theorem mem_indexByte (l : List UInt8) (c : UInt8) : c ∈ l ↔ 0 ≤ Lib.indexByte l c := by
  constructor
  · intro h
    by_cases h0 : 0 ≤ Lib.indexByte l c
    · exact h0
    · have h1 := Lib.indexByte_ge l c
      have h2 : Lib.indexByte l c = -1 := by omega
      obtain ⟨k, hk, e⟩ := List.getElem_of_mem h
      exact absurd (by rw [List.getElem?_eq_getElem hk, e]) (Lib.indexByte_none h2 k)
  · intro h
    obtain ⟨o, ho⟩ : ∃ o : Nat, Lib.indexByte l c = o := ⟨(Lib.indexByte l c).toNat, by omega⟩
    exact List.mem_of_getElem? (Lib.indexByte_some ho).1
theorem contains_yes (s : ByteArray) (c : UInt8) (w : World) (hm : c ∈ s.data.toList) :
    Calls Try.prog 31 #[.string s, .string ⟨#[c]⟩] w fun e w' => e = .returned (.bool true) ∧ w = w' :=
  (Try.strings_Contains_one s c w).mono fun e w' ⟨h1, h2⟩ => ⟨by rw [h1, decide_eq_true ((mem_indexByte _ _).1 hm)], h2.symm⟩
theorem contains_no (s : ByteArray) (c : UInt8) (w : World) (hm : c ∉ s.data.toList) :
    Calls Try.prog 31 #[.string s, .string ⟨#[c]⟩] w fun e w' => e = .returned (.bool false) ∧ w = w' :=
  (Try.strings_Contains_one s c w).mono fun e w' ⟨h1, h2⟩ => ⟨by rw [h1, decide_eq_false (fun h => hm ((mem_indexByte _ _).2 h))], h2.symm⟩


/-! ### The parts of a list of bytes -/
def splitStep (b : UInt8) (acc : List (List UInt8) × List UInt8) (c : UInt8) : List (List UInt8) × List UInt8 :=
  if c = b then (acc.1 ++ [acc.2], []) else (acc.1, acc.2 ++ [c])
def splitP (b : UInt8) (l : List UInt8) : List (List UInt8) × List UInt8 := l.foldl (splitStep b) ([], [])
/-- The parts of l between the bytes b. -/
def splitL (b : UInt8) (l : List UInt8) : List (List UInt8) := (splitP b l).1 ++ [(splitP b l).2]
theorem splitP_hit (b : UInt8) (l : List UInt8) {c : UInt8} (h : c = b) : splitP b (l ++ [c]) = ((splitP b l).1 ++ [(splitP b l).2], []) := by
  unfold splitP; rw [List.foldl_append]; simp [splitStep, h]
theorem splitP_miss (b : UInt8) (l : List UInt8) {c : UInt8} (h : c ≠ b) : splitP b (l ++ [c]) = ((splitP b l).1, (splitP b l).2 ++ [c]) := by
  unfold splitP; rw [List.foldl_append]; simp [splitStep, h]
theorem splitP_len (b : UInt8) (l : List UInt8) : ∀ acc, (l.foldl (splitStep b) acc).1.length ≤ acc.1.length + l.length := by
  induction l with
  | nil => intro acc; simp
  | cons c l ih =>
    intro acc
    have h1 := ih (splitStep b acc c)
    have h2 : (splitStep b acc c).1.length ≤ acc.1.length + 1 := by
      unfold splitStep; split <;> simp
    simp only [List.foldl_cons, List.length_cons]
    omega
/-- The first part, by takeWhile. -/
theorem split_head (b : UInt8) (l : List UInt8) : ∀ (cur : List UInt8), (b ∉ l → l.foldl (splitStep b) ([], cur) = ([], cur ++ l)) ∧
    ∀ done : List (List UInt8), ∃ r, ((l.foldl (splitStep b) (done, cur)).1 ++ [(l.foldl (splitStep b) (done, cur)).2]) = done ++ (cur ++ l.takeWhile (fun c => c != b)) :: r := by
  induction l with
  | nil => intro cur; exact ⟨fun _ => by simp, fun done => ⟨[], by simp⟩⟩
  | cons c l ih =>
    intro cur
    by_cases h : c = b
    · subst h
      refine ⟨fun hn => absurd (List.mem_cons_self ..) hn, fun done => ?_⟩
      obtain ⟨r, hr⟩ := (ih []).2 (done ++ [cur])
      refine ⟨([] ++ l.takeWhile (fun x => x != c)) :: r, ?_⟩
      simp only [List.foldl_cons, splitStep, if_true, List.takeWhile_cons, bne_self_eq_false, Bool.false_eq_true, if_false, List.append_nil]
      rw [hr]
      simp
    · refine ⟨fun hn => ?_, fun done => ?_⟩
      · have := (ih (cur ++ [c])).1 (fun hm => hn (List.mem_cons_of_mem _ hm))
        simp only [List.foldl_cons, splitStep, if_neg h]
        rw [this]
        simp
      · obtain ⟨r, hr⟩ := (ih (cur ++ [c])).2 done
        refine ⟨r, ?_⟩
        have hb : (c != b) = true := by simpa using h
        simp only [List.foldl_cons, splitStep, if_neg h, List.takeWhile_cons, hb, if_true]
        rw [hr]
        simp

/-! ### spec.l1Split -/
def strV (p : List UInt8) : Value := .string ⟨p.toArray⟩
theorem info9 : (Try.prog.info? 9).map (fun i => (i.zero, i.size, i.bytes)) = some (some (.string ⟨#[]⟩), 1, 16) := by kernel_rfl
/-- The full parts of the first k bytes. -/
def partsAt (b : UInt8) (s : ByteArray) (k : Nat) : List (List UInt8) := (splitP b (s.data.toList.take k)).1
theorem partsAt_len (b : UInt8) (s : ByteArray) (k : Nat) : (partsAt b s k).length ≤ k := by
  have h1 := splitP_len b (s.data.toList.take k) ([], [])
  have h2 : (s.data.toList.take k).length ≤ k := List.length_take_le _ _
  have h3 : (([], []) : List (List UInt8) × List UInt8).1.length = 0 := rfl
  unfold partsAt splitP
  omega
/-- The last part of the first k bytes begins at f. -/
def LastAt (b : UInt8) (s : ByteArray) (k f : Nat) : Prop := (splitP b (s.data.toList.take k)).2 = (s.data.toList.take k).drop f
theorem piece_eq (s : ByteArray) (f k : Nat) : Value.string (s.extract f k) = strV ((s.data.toList.take k).drop f) := by
  unfold strV
  congr 1
  apply ByteArray.ext
  apply Array.toList_inj.1
  rw [Lib.extract_data]
  simp [List.drop_take]
theorem parts_hit (b : UInt8) (s : ByteArray) (k f : Nat) (hlt : k < s.size) (h : s[k] = b) (hl : LastAt b s k f) :
    partsAt b s (k + 1) = partsAt b s k ++ [(s.data.toList.take k).drop f] ∧ LastAt b s (k + 1) (k + 1) := by
  unfold partsAt LastAt at *
  rw [take_snoc s k hlt, splitP_hit b _ h, hl]
  refine ⟨rfl, ?_⟩
  have : (List.take k s.data.toList ++ [s[k]]).length ≤ k + 1 := by
    simp only [List.length_append, List.length_take, List.length_cons, List.length_nil]
    omega
  rw [List.drop_of_length_le this]
theorem parts_miss (b : UInt8) (s : ByteArray) (k f : Nat) (hlt : k < s.size) (hf : f ≤ k) (h : s[k] ≠ b) (hl : LastAt b s k f) :
    partsAt b s (k + 1) = partsAt b s k ∧ LastAt b s (k + 1) f := by
  unfold partsAt LastAt at *
  rw [take_snoc s k hlt, splitP_miss b _ h, hl]
  refine ⟨rfl, ?_⟩
  have h3 : s.data.toList.length = s.size := Array.length_toList
  have : f ≤ (List.take k s.data.toList).length := by simp only [List.length_take]; omega
  rw [List.drop_append_of_le_length this]
theorem parts_end (b : UInt8) (s : ByteArray) (f : Nat) (hl : LastAt b s s.size f) :
    splitL b s.data.toList = partsAt b s s.size ++ [s.data.toList.drop f] := by
  have h3 : s.data.toList.length = s.size := Array.length_toList
  unfold partsAt LastAt splitL at *
  rw [List.take_of_length_le (by omega)] at *
  rw [hl]

/-- What spec.l1Split hands back: a slice that owns the parts. -/
def SplitPost (b : UInt8) (s : ByteArray) (w : World) (e : Ending) (w' : World) : Prop :=
  ∃ v, e = .returned v ∧ w'.ownsRow w.heap.size 9 1 v (splitL b s.data.toList).length ((splitL b s.data.toList).map strV) ∧ Below w.heap.size w w'

/-- One more part, appended: the row behind it. -/
theorem row_hit {w1 : World} {B : Nat} {v : Value} (b : UInt8) (s : ByteArray) (k f : Nat) (hlt : k < s.size) (h : s[k] = b) (hl : LastAt b s k f)
    (hr : w1.ownsRow B 9 1 v ((partsAt b s k).length + 1) ((partsAt b s k).map strV ++ [.string (s.extract f k)])) :
    w1.ownsRow B 9 1 v (partsAt b s (k + 1)).length ((partsAt b s (k + 1)).map strV) := by
  rw [(parts_hit b s k f hlt h hl).1]
  rw [piece_eq] at hr
  simpa using hr
theorem row_end {w1 : World} {B : Nat} {v : Value} (b : UInt8) (s : ByteArray) (f : Nat) (hl : LastAt b s s.size f)
    (hr : w1.ownsRow B 9 1 v ((partsAt b s s.size).length + 1) ((partsAt b s s.size).map strV ++ [.string (s.extract f s.size)])) :
    w1.ownsRow B 9 1 v (splitL b s.data.toList).length ((splitL b s.data.toList).map strV) := by
  have h3 : s.data.toList.length = s.size := Array.length_toList
  rw [parts_end b s f hl]
  rw [piece_eq, List.take_of_length_le (by omega)] at hr
  simpa using hr
set_option maxHeartbeats 800000 in
theorem split_any (s : ByteArray) (b : UInt8) (n : Int) (hn : n = (b.toNat : Int)) (w : World) (hs : s.size ≤ 4000) :
    Calls Try.prog 34 #[.string s, .int .u8 n] w (SplitPost b s w) := by
  subst hn
  obtain ⟨i0, hi, hz0, hz1, hz2⟩ := info_parts info9
  go_enter Try.func34, Try.ntmps34
  go_wp2
  go_loopw [5, 6, 7] (fun v f i wr => ∃ k f' : Nat, k ≤ s.size ∧ f' ≤ k ∧ i = .int .i64 k ∧ f = .int .i64 f' ∧ Hid (LastAt b s k f') ∧ wr.ownsRow w.heap.size 9 1 v (partsAt b s k).length ((partsAt b s k).map strV) ∧ Below w.heap.size w wr)
    (fun _ _ i _ => s.size - (intOf i).toNat)
  case atStart => exact ⟨0, 0, Nat.zero_le _, Nat.zero_le _, rfl, rfl, by simp [Hid, LastAt, splitP], World.ownsRow_made w #[] 0 (Nat.le_refl _) (by simp [maxLen]) rfl, (Below.refl _ w).alloc (Nat.le_refl _) _⟩
  case round =>
    obtain ⟨k, f', hk, hf, rfl, rfl, hl, hown, hB⟩ := hrel
    have hp := partsAt_len b s k
    by_cases hlt : k < s.size
    · by_cases he : s[k] = b
      · have hd : ((s[k].toNat : Int) == (b.toNat : Int)) = true := by rw [he]; simp
        have HR := Lib.hid (fun (w1 : World) (v : Value) => row_hit (w1 := w1) (B := w.heap.size) (v := v) b s k f' hlt he hl.out)
        have HM := Lib.hid (parts_hit b s k f' hlt he hl.out).2
        clear he
        go_wp2_with (at_builtin; refine wpList_append_own _ rfl _ _ 26 rfl w.heap.size 9 i0 (.string ⟨#[]⟩) 1 16 Try.underlying26 hi hz0 hz1 hz2 rfl (by decide) _ _ _ rfl (hown.alloc _) ⟨wr.heap.size, 0, none⟩ 1 1 [.string (s.extract f' k)] rfl rfl (cell_one_new _ _ _) (by simp [Value.oneCell']) (by unfold maxLen; omega) (by omega) (by have := hB.size; simp; omega) ?_; intro v' w1 hown' hgrow _; have hB1 := Lib.hid ((hB.alloc hB.size _).grown hgrow (by have := hB.size; simp; omega) (fun j hj => (hown.lt j hj).1)); have hr1 := Lib.hid (HR.out w1 v' hown'); clear hown' hgrow)
        go_roundw
        case rel => exact ⟨k + 1, k + 1, by omega, by omega, by go_num, by go_num, HM, hr1.out, hB1.out⟩
        case measure => simp [intOf]; omega
      · have hd : ((s[k].toNat : Int) == (b.toNat : Int)) = false := by
          have : s[k].toNat ≠ b.toNat := fun e => he (UInt8.toNat_inj.1 e)
          exact beq_eq_false_iff_ne.2 (by omega)
        have HM := Lib.hid (parts_miss b s k f' hlt hf he hl.out)
        clear he
        go_wp2
        go_roundw
        case rel => exact ⟨k + 1, f', by omega, by omega, by go_num, rfl, HM.out.2, by rw [HM.out.1]; exact hown, hB⟩
        case measure => simp [intOf]; omega
    · obtain rfl : k = s.size := by omega
      have HR := Lib.hid (fun (w1 : World) (v : Value) => row_end (w1 := w1) (B := w.heap.size) (v := v) b s f' hl.out)
      go_wp2_with (at_builtin; refine wpList_append_own _ rfl _ _ 26 rfl w.heap.size 9 i0 (.string ⟨#[]⟩) 1 16 Try.underlying26 hi hz0 hz1 hz2 rfl (by decide) _ _ _ rfl (hown.alloc _) ⟨wr.heap.size, 0, none⟩ 1 1 [.string (s.extract f' s.size)] rfl rfl (cell_one_new _ _ _) (by simp [Value.oneCell']) (by unfold maxLen; omega) (by omega) (by have := hB.size; simp; omega) ?_; intro v' w1 hown' hgrow _; have hB1 := Lib.hid ((hB.alloc hB.size _).grown hgrow (by have := hB.size; simp; omega) (fun j hj => (hown.lt j hj).1)); have hr1 := Lib.hid (HR.out w1 v' hown'); clear hown' hgrow)
      go_ret
      exact ⟨_, rfl, hr1.out, hB1.out⟩

theorem ba_ne {a b : ByteArray} (h : a ≠ b) : (a.toList == b.toList) = false := by
  refine beq_eq_false_iff_ne.2 fun e => h ?_
  rw [ByteArray.toList_eq, ByteArray.toList_eq] at e
  exact ByteArray.ext (Array.toList_inj.1 e)

end Go.Proofs.Ytcnpbhbhklmifaa
