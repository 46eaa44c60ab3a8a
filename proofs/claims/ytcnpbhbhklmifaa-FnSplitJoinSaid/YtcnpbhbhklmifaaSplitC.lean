/-
  Contracts of impl.SplitString, spec.SplitString, laws.markText, laws.markStringS and laws.heldStringS over this translation. Conditions: stated at each theorem.
-/
import Derived.Test.YtcnpbhbhklmifaaSeq
import Derived.Lib.ItoaMem
namespace Go.Proofs.Ytcnpbhbhklmifaa
open Go.RowKit Go.Sort Go.Shelf

/-- A new row of the texts xs, and a yes or no. -/
def RowRes (xs : List ByteArray) (R : Bool) (w : World) (e : Ending) (w' : World) : Prop :=
  ∃ g cap, e = .returned (.tuple #[.slice (some ⟨g, 0, none⟩) xs.length cap, .bool R]) ∧ w'.ownsRow w.heap.size 9 1 (.slice (some ⟨g, 0, none⟩) xs.length cap) xs.length (xs.map Value.string) ∧ Below w.heap.size w w'

/-! ### impl.SplitString -/
theorem pieces_of (s : ByteArray) (n : Int) (w : World) :
    Calls Try.prog 28 #[.string s, .int .u8 n] w fun e w' => e = .returned (.func (.func 38) #[] #[.pointer (some ⟨w.heap.size, 0, none⟩), .pointer (some ⟨w.heap.size + 1, 0, none⟩)]) ∧ w' = (w.alloc (.cells #[.string s] 9)).alloc (.cells #[.int .u8 n] 5) := by
  go_enter Try.func28, Try.ntmps28
  go_wp2
  go_ret
  exact ⟨rfl, rfl⟩
def CollPost (b : UInt8) (s : ByteArray) (w : World) (e : Ending) (w' : World) : Prop :=
  ∃ g cap, e = .returned (.slice (some ⟨g, 0, none⟩) (partsB b s).length cap) ∧ w'.ownsRow w.heap.size 9 1 (.slice (some ⟨g, 0, none⟩) (partsB b s).length cap) (partsB b s).length ((partsB b s).map Value.string) ∧ Below w.heap.size w w'
theorem append_c (Bs Bb : Nat) (s : ByteArray) (b : UInt8) (w : World) (hBs : Bs < w.heap.size) (hBb : Bb < w.heap.size) (hsz : s.size ≤ 4000)
    (hs : w.cell? ⟨Bs, 0, none⟩ = some (.string s)) (hb : w.cell? ⟨Bb, 0, none⟩ = some (.int .u8 (b.toNat : Int))) :
    Calls Try.prog 37 #[.slice none 0 0, .func (.func 38) #[] #[.pointer (some ⟨Bs, 0, none⟩), .pointer (some ⟨Bb, 0, none⟩)]] w (CollPost b s w) := by
  refine (callsIn_wide (n := 3)).1 ((append_in 3 (by omega) Bs Bb s b w hBs hBb hsz hs hb).mono ?_)
  rintro e w' ⟨v, he, hr, hB⟩
  obtain ⟨k, hk⟩ : ∃ k, (partsB b s).length = k + 1 := ⟨(partsB b s).length - 1, by have := partsB_ne b s; omega⟩
  have hr2 := hr
  rw [hk] at hr2
  obtain ⟨g, cap, rfl⟩ := ownsRow_succ hr2
  exact ⟨g, cap, by rw [he, hk], by rw [← hk] at hr; exact hr, hB⟩
theorem collect_c (Bs Bb : Nat) (s : ByteArray) (b : UInt8) (w : World) (hBs : Bs < w.heap.size) (hBb : Bb < w.heap.size) (hsz : s.size ≤ 4000)
    (hs : w.cell? ⟨Bs, 0, none⟩ = some (.string s)) (hb : w.cell? ⟨Bb, 0, none⟩ = some (.int .u8 (b.toNat : Int))) :
    Calls Try.prog 27 #[.func (.func 38) #[] #[.pointer (some ⟨Bs, 0, none⟩), .pointer (some ⟨Bb, 0, none⟩)]] w (CollPost b s w) := by
  have HA := Lib.hid (append_c Bs Bb s b w hBs hBb hsz hs hb)
  clear hs hb
  go_enter Try.func27, Try.ntmps27
  go_wp2_with (go_at_call 37; refine HA.out.mono ?_; rintro e w' ⟨g, cap, rfl, hr, hB⟩; have HR := Lib.hid hr; have HB := Lib.hid hB; clear hr hB)
  go_ret
  exact ⟨g, cap, rfl, HR.out, HB.out⟩
theorem own_base {w : World} {B B' : Nat} {e : TypeId} {size n : Nat} {v : Value} {xs : List Value} (h : w.ownsRow B e size v n xs) (hB : B' ≤ B) : w.ownsRow B' e size v n xs := by
  refine ⟨h.1, ?_⟩
  rcases h.2 with h2 | ⟨g, cap, cur, h1, h2, h3⟩
  · exact .inl h2
  · exact .inr ⟨g, cap, cur, h1, by omega, h3⟩
set_option maxHeartbeats 400000 in
theorem split_impl_yes (s : ByteArray) (b : UInt8) (w : World) (hsz : s.size ≤ 4000) :
    Calls Try.prog 10 #[.string s, .string ⟨#[b]⟩] w (RowRes (partsB b s) true w) := by
  have hb0 : (((⟨#[b]⟩ : ByteArray)[0]'(show 0 < (⟨#[b]⟩ : ByteArray).size from Nat.zero_lt_one)).toNat : Int) = (b.toNat : Int) := rfl
  have c1 := ((Boxed.new w 9 (.string s)).alloc (.cells #[.int .u8 (b.toNat : Int)] 5)).cell
  have c2 := (Boxed.new (w.alloc (.cells #[.string s] 9)) 5 (.int .u8 (b.toNat : Int))).cell
  rw [World.size_alloc] at c2
  have HC := Lib.hid (collect_c w.heap.size (w.heap.size + 1) s b _ (by simp; omega) (by simp) hsz c1 c2)
  clear c1 c2
  go_enter Try.func10, Try.ntmps10
  go_wp2_with (first
    | (go_at_call 28; refine (pieces_of s _ _).mono ?_; rintro e w' ⟨rfl, rfl⟩)
    | (go_at_call 27; refine HC.out.mono ?_; rintro e w' ⟨g, cap, rfl, hr, hB⟩; have HR := Lib.hid hr; have HB := Lib.hid hB; clear hr hB))
  go_ret2
  exact ⟨g, cap, rfl, own_base HR.out (by simp; omega), (((Below.refl w.heap.size w).alloc (Nat.le_refl _) _).alloc (by simp) _).trans (HB.out.mono (by simp; omega))⟩
theorem none_made (w : World) : (w.alloc (.cells #[] 9)).ownsRow w.heap.size 9 1 (.slice (some ⟨w.heap.size, 0, none⟩) 0 0) 0 [] :=
  World.ownsRow_made w #[] 0 (Nat.le_refl _) (by simp [maxLen]) rfl
/-- The texts that SplitString does not split. -/
def NoSplit (s sep : ByteArray) : Prop := (4000 : Int) < s.size ∨ ((sep.size : Int) == 1) = false
theorem split_impl_no (s sep : ByteArray) (w : World) (h : NoSplit s sep) : Calls Try.prog 10 #[.string s, .string sep] w (RowRes [] false w) := by
  by_cases h1 : (4000 : Int) < s.size
  · clear h
    go_enter Try.func10, Try.ntmps10
    go_wp2
    go_ret2
    exact ⟨w.heap.size, 0, rfl, none_made w, (Below.refl w.heap.size w).alloc (Nat.le_refl _) _⟩
  · have h2 : ((sep.size : Int) == 1) = false := h.resolve_left h1
    clear h
    go_enter Try.func10, Try.ntmps10
    go_wp2
    go_ret2
    exact ⟨w.heap.size, 0, rfl, none_made w, (Below.refl w.heap.size w).alloc (Nat.le_refl _) _⟩
theorem split_spec_no (s sep : ByteArray) (w : World) (h : NoSplit s sep) : Calls Try.prog 17 #[.string s, .string sep] w (RowRes [] false w) := by
  by_cases h2 : sep.size = 1
  · have h1 : (4000 : Int) < s.size := by
      rcases h with h | h
      · exact h
      · rw [h2] at h; simp at h
    have h3 : (1 : Int) ≤ sep.size := by omega
    have h4 : (sep.size : Int) ≤ 1 := by omega
    clear h h2
    go_enter Try.func17, Try.ntmps17
    go_wp2
    go_ret2
    exact ⟨w.heap.size, 0, rfl, none_made w, (Below.refl w.heap.size w).alloc (Nat.le_refl _) _⟩
  · have h3 : ((sep.size : Int) == 1) = false := beq_eq_false_iff_ne.2 (by omega)
    have h4 : ¬ ((sep.size : Int) = 1) := by omega
    clear h h2
    go_enter Try.func17, Try.ntmps17
    go_wp2
    go_ret2
    exact ⟨w.heap.size, 0, rfl, none_made w, (Below.refl w.heap.size w).alloc (Nat.le_refl _) _⟩

/-! ### spec.SplitString -/
theorem split_row (s : ByteArray) (b : UInt8) (n : Int) (hn : n = (b.toNat : Int)) (w : World) (hs : s.size ≤ 4000) :
    Calls Try.prog 34 #[.string s, .int .u8 n] w (CollPost b s w) := by
  refine (split_any s b n hn w hs).mono ?_
  rintro e w' ⟨v, he, hr, hB⟩
  have e1 : (splitL b s.data.toList).length = (partsB b s).length := by simp [partsB]
  have e2 : (splitL b s.data.toList).map strV = (partsB b s).map Value.string := by
    simp only [partsB, List.map_map]
    rfl
  rw [e1, e2] at hr
  obtain ⟨k, hk⟩ : ∃ k, (partsB b s).length = k + 1 := ⟨(partsB b s).length - 1, by have := partsB_ne b s; omega⟩
  have hr2 := hr
  rw [hk] at hr2
  obtain ⟨g, cap, rfl⟩ := ownsRow_succ hr2
  exact ⟨g, cap, by rw [he, hk], by rw [← hk] at hr; exact hr, hB⟩
set_option maxHeartbeats 400000 in
theorem split_spec_yes (s : ByteArray) (b : UInt8) (w : World) (hsz : s.size ≤ 4000) :
    Calls Try.prog 17 #[.string s, .string ⟨#[b]⟩] w (RowRes (partsB b s) true w) := by
  have HC := Lib.hid (fun (n : Int) (hn : n = (b.toNat : Int)) => split_row s b n hn w hsz)
  go_enter Try.func17, Try.ntmps17
  go_wp2_with (go_at_call 34; refine (HC.out _ (by rfl)).mono ?_; rintro e w' ⟨g, cap, rfl, hr, hB⟩; have HR := Lib.hid hr; have HB := Lib.hid hB; clear hr hB)
  go_ret2
  exact ⟨g, cap, rfl, HR.out, HB.out⟩
/-- The answers of both. -/
theorem split_both (s sep : ByteArray) : ∃ (xs : List ByteArray) (R : Bool), xs.length ≤ 4001 ∧
    (∀ w, Calls Try.prog 17 #[.string s, .string sep] w (RowRes xs R w)) ∧ (∀ w, Calls Try.prog 10 #[.string s, .string sep] w (RowRes xs R w)) := by
  by_cases h : NoSplit s sep
  · exact ⟨[], false, by simp, fun w => split_spec_no s sep w h, fun w => split_impl_no s sep w h⟩
  · have hs : s.size ≤ 4000 := by
      by_cases h1 : (4000 : Int) < s.size
      · exact absurd (.inl h1) h
      · omega
    have h2 : sep.size = 1 := by
      by_cases h2 : sep.size = 1
      · exact h2
      · exact absurd (.inr (beq_eq_false_iff_ne.2 (by omega))) h
    obtain ⟨b, rfl⟩ : ∃ b, sep = ⟨#[b]⟩ := by
      obtain ⟨⟨l⟩⟩ := sep
      match l, h2 with
      | [b], _ => exact ⟨b, rfl⟩
    exact ⟨partsB b s, true, by have := partsB_len b s; omega, fun w => split_spec_yes s b w hs, fun w => split_impl_yes s b w hs⟩

/-! ### laws.markText -/
/-- The mark of k. -/
def markT (k : Nat) : ByteArray := ⟨(109 :: Lib.decDigits k).toArray⟩
/-- The text of one digit. -/
def dgt (d : Nat) : ByteArray := ⟨#[UInt8.ofNat (48 + d)]⟩
/-- What the rest u of the number k leaves to be written before o. -/
def Rest (k u : Nat) (o : ByteArray) : Prop := Lib.decDigits k = (if u = 0 then [] else Lib.decDigits u) ++ o.data.toList
theorem rest_step (k u : Nat) (o : ByteArray) (hu : 0 < u) (h : Rest k u o) : Rest k (u / 10) (dgt (u % 10) ++ o) := by
  unfold Rest at *
  rw [if_neg (by omega)] at h
  rw [h]
  by_cases h10 : u < 10
  · rw [Lib.decDigits_one h10, if_pos (by omega), Nat.mod_eq_of_lt h10]
    simp [dgt]
  · rw [Lib.decDigits, dif_neg h10, if_neg (by omega)]
    simp [dgt]
theorem one_byte (d : Nat) (hd : d < 10) (n : Int) (hn : n = 48 + (d : Int)) (w : World) :
    (convert 22 9 (.slice (some ⟨w.heap.size, 0, none⟩) 1 1)).run Try.prog (w.alloc (.cells #[.int .u8 n] 5)) = .ok (.string (dgt d)) (w.alloc (.cells #[.int .u8 n] 5)) := by
  subst hn
  have e : (UInt8.ofNat (48 + d)).toNat = 48 + d := by rw [UInt8.toNat_ofNat']; omega
  have h := run_convert_bytes_back (P := Try.prog) (w.alloc (.cells #[.int .u8 (48 + (d : Int))] 5)) 22 9 5 ⟨w.heap.size, 0, none⟩ 1 [UInt8.ofNat (48 + d)] Try.underlying22 Try.underlying5 Try.underlying9 (fun j hj => by
    have hj0 : j = 0 := by simpa using hj
    subst hj0
    have := (Boxed.new w 5 (.int .u8 (48 + (d : Int)))).cell
    rw [Lib.add_plain]
    simp only [List.getElem_cons_zero, e]
    rw [this]
    rfl)
  exact h
theorem dgt_add (d : Nat) (s : ByteArray) (hs : s.size ≤ 1048576) (w : World) : (Op.stringOp .add (dgt d) s).run Try.prog w = .ok (.string (dgt d ++ s)) w := by
  have e : (dgt d).size = 1 := rfl
  rw [run_string_add_sum w _ _ (by rw [e]; omega)]
theorem m_add (s : ByteArray) (hs : s.size ≤ 1048576) (w : World) : (Op.stringOp .add ⟨#[109]⟩ s).run Try.prog w = .ok (.string (⟨#[109]⟩ ++ s)) w := by
  have e : (⟨#[109]⟩ : ByteArray).size = 1 := rfl
  rw [run_string_add_sum w _ _ (by rw [e]; omega)]
set_option maxHeartbeats 800000 in
theorem mark_any (k : Nat) (w : World) (h0 : 0 < k) (h1 : k ≤ 100000) :
    Calls Try.prog 35 #[.int .i64 k] w fun e w' => e = .returned (.string (markT k)) ∧ Below w.heap.size w w' := by
  go_enter Try.func35, Try.ntmps35
  go_wp2
  go_loopw [0, 3] (fun u o wr => ∃ (m : Nat) (s : ByteArray), m ≤ k ∧ u = .int .i64 m ∧ o = .string s ∧ s.size + m ≤ k ∧ Hid (Rest k m s) ∧ Below w.heap.size w wr) (fun u _ _ => (intOf u).toNat)
  case atStart => exact ⟨k, ⟨#[]⟩, Nat.le_refl _, rfl, rfl, Nat.le_of_eq (Nat.zero_add _), by unfold Hid Rest; rw [if_neg (by omega)]; simp, Below.refl _ _⟩
  case round =>
    obtain ⟨m, s, hm, rfl, rfl, hsm, hr, hB⟩ := hrel
    by_cases hlt : 0 < m
    · have HR := Lib.hid (rest_step k m s hlt hr.out)
      have h2 : IntKind.u8.wrap (48 + (m : Int) % 10) = 48 + (m : Int) % 10 := by rw [IntKind.wrap_u8]; omega
      have h3 := one_byte (m % 10) (by omega) (48 + (m : Int) % 10) (by omega) wr
      have h4 := dgt_add (m % 10) s (by omega)
      have h5 : (dgt (m % 10) ++ s).size = 1 + s.size := ByteArray.size_append
      have H5 := Lib.hid h5
      clear h5
      go_wp2
      go_roundw
      case rel => exact ⟨m / 10, dgt (m % 10) ++ s, by omega, by rw [Int.natCast_ediv]; rfl, rfl, by have := H5.out; omega, HR, hB.alloc hB.size _⟩
      case measure => simp [intOf]; omega
    · obtain rfl : m = 0 := by omega
      have hk : (⟨#[109]⟩ : ByteArray) ++ s = markT k := by
        have h := hr.out
        unfold Rest at h
        rw [if_pos rfl] at h
        apply ByteArray.ext
        apply Array.toList_inj.1
        simp [markT, h]
      have h4 : ∀ W, (Op.stringOp .add ⟨#[109]⟩ s).run Try.prog W = .ok (.string (markT k)) W := fun W => by rw [m_add s (by omega), hk]
      clear hk
      go_wp2
      go_ret
      exact ⟨rfl, hB⟩
end Go.Proofs.Ytcnpbhbhklmifaa
