/-
  Words: contracts of impl.isWord, spec.l2Word over this translation. Conditions: stated at each theorem.
-/
import Derived.Test.YtdmnkmdlochogaaBase
import Derived.BigRegion
import Derived.Deep.QuietTactic
import Derived.BigQuiet
namespace Go.Proofs.Ytdmnkmdlochogaa
open Go.RowKit

/-! ### Words -/
def letB (c : Nat) : Bool := decide (97 ≤ c ∧ c ≤ 122)
def lettersK (s : ByteArray) (k : Nat) : Bool := (List.range k).all fun i => letB (s.data.toList.getD i 0).toNat
def wordB (s : ByteArray) : Bool := inB s.size 1 10 && lettersK s s.size
theorem lettersK_succ (s : ByteArray) (k : Nat) : lettersK s (k + 1) = (lettersK s k && letB (s.data.toList.getD k 0).toNat) := by
  unfold lettersK
  rw [List.range_succ, List.all_append]
  simp
theorem lettersK_bad (s : ByteArray) {k n : Nat} (h : k < n) (hb : letB (s.data.toList.getD k 0).toNat = false) : lettersK s n = false := by
  unfold lettersK
  rw [List.all_eq_false]
  exact ⟨k, by simpa using h, by simpa using hb⟩
theorem byte_at (s : ByteArray) (k : Nat) (h : k < s.size) : s.data.toList.getD k 0 = s[k] := by
  have h' : k < s.data.toList.length := by simpa using h
  rw [List.getD_eq_getElem?_getD, List.getElem?_eq_getElem h']
  rfl
theorem wordB_len {s : ByteArray} (h : inB s.size 1 10 = false) : wordB s = false := by unfold wordB; rw [h]; rfl
theorem wordB_bad {s : ByteArray} (h : lettersK s s.size = false) : wordB s = false := by unfold wordB; rw [h, Bool.and_false]
theorem wordB_good {s : ByteArray} (h : lettersK s s.size = true) : wordB s = inB s.size 1 10 := by unfold wordB; rw [h, Bool.and_true]
set_option maxHeartbeats 800000 in
theorem isWord_impl (s : ByteArray) (w : World) (hs : s.size ≤ maxLen) :
    Calls Try.prog 151 #[.string s] w fun e w' => e = .returned (.bool (wordB s)) ∧ w = w' := by
  unfold maxLen at hs
  rcases h1 : inB s.size 1 10 with _ | _
  · have H1 := Lib.hid h1
    have HR := Lib.hid (wordB_len h1)
    clear h1
    go_enter Try.func151, Try.ntmps151
    go_wp2_with fail
    refine (within_v _ _ _ _ H1.out _).mono ?_
    rintro e w' ⟨rfl, rfl⟩
    go_wp2_with fail
    go_ret
    exact ⟨ret_bool HR.out.symm, rfl⟩
  have H1 := Lib.hid h1
  clear h1
  go_enter Try.func151, Try.ntmps151
  go_wp2_with fail
  refine (within_v _ _ _ _ H1.out _).mono ?_
  rintro e w' ⟨rfl, rfl⟩
  go_wp2_with fail
  go_loop [10] (fun i => ∃ k : Nat, k ≤ s.size ∧ i = .int .i64 k ∧ Hid (lettersK s k = true)) (fun i => s.size - (intOf i).toNat)
  case atStart => exact ⟨0, Nat.zero_le _, rfl, by simp [Hid, lettersK]⟩
  case round =>
    obtain ⟨k, hk, rfl, hA⟩ := hrel
    by_cases hlt : k < s.size
    · have HB := Lib.hid (byte_at s k hlt)
      by_cases ha : (s[k].toNat : Int) < 97
      · have HR : Hid (wordB s = false) := wordB_bad (lettersK_bad s hlt (by rw [HB.out]; exact decide_eq_false (by omega)))
        go_wp2_with fail
        go_ret
        exact ⟨ret_bool HR.out.symm, rfl⟩
      by_cases hb : (122 : Int) < (s[k].toNat : Int)
      · have HR : Hid (wordB s = false) := wordB_bad (lettersK_bad s hlt (by rw [HB.out]; exact decide_eq_false (by omega)))
        go_wp2_with fail
        go_ret
        exact ⟨ret_bool HR.out.symm, rfl⟩
      have HR : Hid (lettersK s (k + 1) = true) := by
        unfold Hid
        rw [lettersK_succ, hA.out, HB.out]
        exact decide_eq_true (by omega)
      go_wp2_with fail
      go_round
      case rel => exact ⟨k + 1, by omega, by go_num, HR⟩
      case measure => simp [intOf]; omega
    · obtain rfl : k = s.size := by omega
      have HR : Hid (wordB s = true) := (wordB_good hA.out).trans H1.out
      go_wp2_with fail
      go_ret
      exact ⟨ret_bool HR.out.symm, rfl⟩
set_option maxHeartbeats 800000 in
theorem word_spec (s : ByteArray) (w : World) (hs : s.size ≤ maxLen) :
    Calls Try.prog 154 #[.string s] w fun e w' => e = .returned (.bool (wordB s)) ∧ w = w' := by
  unfold maxLen at hs
  go_enter Try.func154, Try.ntmps154
  go_wp2_with fail
  go_loop [3] (fun i => ∃ k : Nat, k ≤ s.size ∧ i = .int .i64 k ∧ Hid (lettersK s k = true)) (fun i => s.size - (intOf i).toNat)
  case atStart => exact ⟨0, Nat.zero_le _, rfl, by simp [Hid, lettersK]⟩
  case round =>
    obtain ⟨k, hk, rfl, hA⟩ := hrel
    by_cases hlt : k < s.size
    · have HB := Lib.hid (byte_at s k hlt)
      by_cases ha : (s[k].toNat : Int) < 97
      · have HR : Hid (wordB s = false) := wordB_bad (lettersK_bad s hlt (by rw [HB.out]; exact decide_eq_false (by omega)))
        go_wp2_with fail
        go_ret
        exact ⟨ret_bool HR.out.symm, rfl⟩
      by_cases hb : (122 : Int) < (s[k].toNat : Int)
      · have HR : Hid (wordB s = false) := wordB_bad (lettersK_bad s hlt (by rw [HB.out]; exact decide_eq_false (by omega)))
        go_wp2_with fail
        go_ret
        exact ⟨ret_bool HR.out.symm, rfl⟩
      have HR : Hid (lettersK s (k + 1) = true) := by
        unfold Hid
        rw [lettersK_succ, hA.out, HB.out]
        exact decide_eq_true (by omega)
      go_wp2_with fail
      go_round
      case rel => exact ⟨k + 1, by omega, by go_num, HR⟩
      case measure => simp [intOf]; omega
    · obtain rfl : k = s.size := by omega
      have HR : Hid (wordB s = inB s.size 1 10) := wordB_good hA.out
      go_wp2_with fail
      refine (l1In_any _ _ _ _).mono ?_
      rintro e w' ⟨rfl, rfl⟩
      go_wp2_with fail
      go_ret
      exact ⟨ret_bool HR.out.symm, rfl⟩
theorem isWord_v (s : ByteArray) (v : Bool) (h : wordB s = v) (w : World) (hs : s.size ≤ maxLen) :
    Calls Try.prog 151 #[.string s] w fun e w' => e = .returned (.bool v) ∧ w = w' := h ▸ isWord_impl s w hs
theorem word_v (s : ByteArray) (v : Bool) (h : wordB s = v) (w : World) (hs : s.size ≤ maxLen) :
    Calls Try.prog 154 #[.string s] w fun e w' => e = .returned (.bool v) ∧ w = w' := h ▸ word_spec s w hs

theorem ba_ne {a b : ByteArray} (h : a ≠ b) : (a.toList == b.toList) = false := by
  refine beq_eq_false_iff_ne.2 fun e => h ?_
  rw [ByteArray.toList_eq, ByteArray.toList_eq] at e
  exact ByteArray.ext (Array.toList_inj.1 e)
end Go.Proofs.Ytdmnkmdlochogaa
