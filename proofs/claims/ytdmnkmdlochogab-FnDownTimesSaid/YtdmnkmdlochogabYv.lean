/-
  Layers: contracts of impl.AreStrata, spec.l6Good, spec.AreStrata, spec.l6Total, impl.TotalDepth, spec.TotalDepth, impl.reachDown, impl.isSlope, spec.l6Slope over this translation. Conditions: stated at each theorem.
-/
import Derived.Test.YtdmnkmdlochogabYp
import Derived.Test.YtdmnkmdlochogabRed
namespace Go.Proofs.Ytdmnkmdlochogab
open Go.RowKit

theorem strB_len {l : List (Int × Int)} (h : inB l.length 1 5 = false) : strB l = false := by unfold strB; rw [h]; rfl
theorem strB_bad {l : List (Int × Int)} (h : l.all stP = false) : strB l = false := by unfold strB; rw [h, Bool.and_false]
theorem strB_good {l : List (Int × Int)} (h : l.all stP = true) : strB l = inB l.length 1 5 := by unfold strB; rw [h, Bool.and_true]
theorem stP_one {x y : Int} (h : inB x 1 5000 = false) : stP (x, y) = false := by unfold stP; rw [h]; rfl
theorem stP_two {x y : Int} (h : inB y 1300 1700 = false) : stP (x, y) = false := by unfold stP; rw [h, Bool.and_false]
theorem stP_both {x y : Int} (h : inB x 1 5000 = true) (h2 : inB y 1300 1700 = true) : stP (x, y) = true := by unfold stP; rw [h, h2]; rfl
set_option maxHeartbeats 1600000 in
theorem areS_impl (A : Option Addr) (n c : Nat) (l : List (Int × Int)) (w : World) (hs : Spots w w.heap.size A n l) (hm : n ≤ maxLen) :
    Calls Try.prog 35 #[.slice A n c] w fun e w' => e = .returned (.bool (strB l)) ∧ Below w.heap.size w w' := by
  obtain rfl := hs.1
  unfold maxLen at hm
  rcases h1 : inB (l.length : Int) 1 5 with _ | _
  · have H1 := Lib.hid h1
    have HR := Lib.hid (strB_len h1)
    clear h1
    go_enter Try.func35, Try.ntmps35
    go_wp2_with fail
    refine (within_v _ _ _ _ H1.out _).mono ?_
    rintro e w' ⟨rfl, rfl⟩
    go_wp2_with fail
    go_ret
    exact ⟨ret_bool HR.out.symm, Below.refl _ _⟩
  have H1 := Lib.hid h1
  clear h1
  go_enter Try.func35, Try.ntmps35
  go_wp2_with fail
  refine (within_v _ _ _ _ H1.out _).mono ?_
  rintro e w' ⟨rfl, rfl⟩
  go_wp2_with fail
  go_loopw [11] (fun i wr => ∃ k : Nat, k ≤ l.length ∧ i = .int .i64 k ∧ Hid ((l.take k).all stP = true) ∧ Hid (Below w.heap.size w wr)) (fun i _ => l.length - (intOf i).toNat)
  case atStart => exact ⟨0, Nat.zero_le _, rfl, by simp [Hid], Lib.hid (Below.refl _ _)⟩
  case round =>
    obtain ⟨k, hk, rfl, hA, hB⟩ := hrel
    by_cases hlt : k < l.length
    · obtain ⟨b, o, x, y, rfl, hbl, hlk, hc0, hc1⟩ := (hs.on hB.out (Nat.le_refl _)).2 k hlt
      have HK := Lib.hid hlk
      clear hlk
      obtain ⟨W0, hW0⟩ : ∃ W0, W0 = wr.alloc (.cells #[.int .i64 x, .int .i64 y] 125) := ⟨_, rfl⟩
      have HW : Hid (Below wr.heap.size wr W0 ∧ Has W0 wr.heap.size [.int .i64 x, .int .i64 y]) := by rw [hW0]; exact box1 (Below.refl _ _)
      have HB0 := Lib.hid (bthen hB.out HW.out.1 hB.out.size)
      have a0 := HW.out.2.at_ 0 _ rfl
      have a1 := HW.out.2.at_ 1 _ rfl
      have HE := Lib.hid hW0
      clear hW0
      rcases ht : inB x 1 5000 with _ | _
      · have HT := Lib.hid ht
        have HR := Lib.hid (strB_bad (all_bad stP HK.out (stP_one ht)))
        clear ht
        go_wp2_with fail
        rw [← HE.out]
        refine (within_v _ _ _ _ HT.out _).mono ?_
        rintro e w' ⟨rfl, rfl⟩
        go_wp2_with fail
        go_ret
        exact ⟨ret_bool HR.out.symm, HB0.out⟩
      rcases hv : inB y 1300 1700 with _ | _
      · have HT := Lib.hid ht
        have HV := Lib.hid hv
        have HR := Lib.hid (strB_bad (all_bad stP HK.out (stP_two hv)))
        clear ht hv
        go_wp2_with fail
        rw [← HE.out]
        refine (within_v _ _ _ _ HT.out _).mono ?_
        rintro e w' ⟨rfl, rfl⟩
        go_wp2_with fail
        refine (within_v _ _ _ _ HV.out _).mono ?_
        rintro e w' ⟨rfl, rfl⟩
        go_wp2_with fail
        go_ret
        exact ⟨ret_bool HR.out.symm, HB0.out⟩
      have HT := Lib.hid ht
      have HV := Lib.hid hv
      have HR : Hid ((l.take (k + 1)).all stP = true) := by unfold Hid; rw [all_snoc stP HK.out, hA.out, stP_both ht hv]; rfl
      clear ht hv
      go_wp2_with fail
      rw [← HE.out]
      refine (within_v _ _ _ _ HT.out _).mono ?_
      rintro e w' ⟨rfl, rfl⟩
      go_wp2_with fail
      refine (within_v _ _ _ _ HV.out _).mono ?_
      rintro e w' ⟨rfl, rfl⟩
      go_wp2_with fail
      go_roundw
      case rel => exact ⟨k + 1, by omega, by go_num, HR, HB0⟩
      case measure => simp [intOf]; omega
    · have HR : Hid (strB l = true) := by
        have h1 := hA.out
        obtain rfl : k = l.length := by omega
        rw [List.take_length] at h1
        exact (strB_good h1).trans H1.out
      go_wp2
      go_ret
      exact ⟨ret_bool HR.out.symm, hB.out⟩
set_option maxHeartbeats 1600000 in
theorem goodS_spec (A : Option Addr) (n c : Nat) (l : List (Int × Int)) (w : World) (hs : Spots w w.heap.size A n l) (hm : n ≤ maxLen) :
    Calls Try.prog 115 #[.slice A n c] w fun e w' => e = .returned (.bool (strB l)) ∧ w = w' := by
  obtain rfl := hs.1
  have HS := Lib.hid hs
  clear hs
  unfold maxLen at hm
  go_enter Try.func115, Try.ntmps115
  go_wp2
  go_loop [3] (fun i => ∃ k : Nat, k ≤ l.length ∧ i = .int .i64 k ∧ Hid ((l.take k).all stP = true)) (fun i => l.length - (intOf i).toNat)
  case atStart => exact ⟨0, Nat.zero_le _, rfl, by simp [Hid]⟩
  case round =>
    obtain ⟨k, hk, rfl, hA⟩ := hrel
    by_cases hlt : k < l.length
    · obtain ⟨b, o, x, y, rfl, hbl, hlk, hc0, hc1⟩ := HS.out.2 k hlt
      have HK := Lib.hid hlk
      clear hlk
      rcases ht : inB x 1 5000 with _ | _
      · have HT := Lib.hid ht
        have HR := Lib.hid (strB_bad (all_bad stP HK.out (stP_one ht)))
        clear ht
        go_wp2_with fail
        refine (l1In_v _ _ _ _ HT.out _).mono ?_
        rintro e w' ⟨rfl, rfl⟩
        go_wp2_with fail
        go_ret
        exact ⟨ret_bool HR.out.symm, rfl⟩
      rcases hv : inB y 1300 1700 with _ | _
      · have HT := Lib.hid ht
        have HV := Lib.hid hv
        have HR := Lib.hid (strB_bad (all_bad stP HK.out (stP_two hv)))
        clear ht hv
        go_wp2_with fail
        refine (l1In_v _ _ _ _ HT.out _).mono ?_
        rintro e w' ⟨rfl, rfl⟩
        go_wp2_with fail
        refine (l1In_v _ _ _ _ HV.out _).mono ?_
        rintro e w' ⟨rfl, rfl⟩
        go_wp2_with fail
        go_ret
        exact ⟨ret_bool HR.out.symm, rfl⟩
      have HT := Lib.hid ht
      have HV := Lib.hid hv
      have HR : Hid ((l.take (k + 1)).all stP = true) := by unfold Hid; rw [all_snoc stP HK.out, hA.out, stP_both ht hv]; rfl
      clear ht hv
      go_wp2_with fail
      refine (l1In_v _ _ _ _ HT.out _).mono ?_
      rintro e w' ⟨rfl, rfl⟩
      go_wp2_with fail
      refine (l1In_v _ _ _ _ HV.out _).mono ?_
      rintro e w' ⟨rfl, rfl⟩
      go_wp2_with fail
      go_round
      case rel => exact ⟨k + 1, by omega, by go_num, HR⟩
      case measure => simp [intOf]; omega
    · have HR : Hid (strB l = inB (l.length : Int) 1 5) := by
        have h1 := hA.out
        obtain rfl : k = l.length := by omega
        rw [List.take_length] at h1
        exact strB_good h1
      go_wp2_with fail
      refine (l1In_any _ _ _ _).mono ?_
      rintro e w' ⟨rfl, rfl⟩
      go_wp2_with fail
      go_ret
      exact ⟨ret_bool HR.out.symm, rfl⟩
theorem areSt_v (A : Option Addr) (n c : Nat) (l : List (Int × Int)) (v : Bool) (h : strB l = v) (w : World) (hs : Spots w w.heap.size A n l) (hm : n ≤ maxLen) :
    Calls Try.prog 35 #[.slice A n c] w fun e w' => e = .returned (.bool v) ∧ Below w.heap.size w w' := h ▸ areS_impl A n c l w hs hm
theorem goodS_v (A : Option Addr) (n c : Nat) (l : List (Int × Int)) (v : Bool) (h : strB l = v) (w : World) (hs : Spots w w.heap.size A n l) (hm : n ≤ maxLen) :
    Calls Try.prog 115 #[.slice A n c] w fun e w' => e = .returned (.bool v) ∧ w = w' := h ▸ goodS_spec A n c l w hs hm
theorem areS_spec (A : Option Addr) (n c : Nat) (l : List (Int × Int)) (w : World) (hs : Spots w w.heap.size A n l) (hm : n ≤ maxLen) :
    Calls Try.prog 36 #[.slice A n c] w fun e w' => e = .returned (.bool (strB l)) ∧ Below w.heap.size w w' := by
  have HS := Lib.hid hs
  clear hs
  go_enter Try.func36, Try.ntmps36
  go_wp2_with fail
  refine (goodS_spec _ _ _ l _ HS.out hm).mono ?_
  rintro e w1 ⟨rfl, rfl⟩
  go_wp2_with fail
  go_ret
  exact ⟨rfl, Below.refl _ _⟩
end Go.Proofs.Ytdmnkmdlochogab
