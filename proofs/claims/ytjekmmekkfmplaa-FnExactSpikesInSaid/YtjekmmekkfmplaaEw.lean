/-
  Tracks and limits: contracts of spec.l2Depth, l12Good, l12Asked, IsTrack, impl.IsTrack, isSpikeLimit over this translation. Conditions: stated at each theorem.
-/
import Derived.Test.YtjekmmekkfmplaaEp
import Derived.Test.YtjekmmekkfmplaaHs
namespace Go.Proofs.Ytjekmmekkfmplaa
open Go.RowKit
set_option linter.unusedVariables false

theorem depthE_spec (n : Int) (v : Bool) (h : inB n (-1000) 20000 = v) (w : World) :
    Calls Try.prog 82 #[.int .i64 n] w fun e w' => e = .returned (.bool v) ∧ w = w' := by
  have H := Lib.hid h
  clear h
  go_enter Try.func82, Try.ntmps82
  go_wp2_with fail
  refine (l1In_v _ _ _ _ H.out _).mono ?_
  rintro e w' ⟨rfl, rfl⟩
  go_wp2_with fail
  go_ret
  exact ⟨rfl, rfl⟩
set_option maxHeartbeats 1600000 in
theorem goodE_spec (A : Option Addr) (C lo hi : Nat) (T : List Int) (r : Bool) (hr : trB T = r) (w : World) (ht : IFun w lo hi A T.length (fun j => T.getD j 0)) (hm : T.length ≤ 1048576) :
    Calls Try.prog 62 #[.slice A T.length C] w fun e w' => e = .returned (.bool r) ∧ w = w' := by
  have HI := Lib.hid ht
  have HR := Lib.hid hr
  clear ht hr
  go_enter Try.func62, Try.ntmps62
  go_wp2_with fail
  go_loopw [3] (fun i wr => ∃ k : Nat, k ≤ T.length ∧ i = .int .i64 k ∧ Hid (trK T k = true) ∧ Hid (w = wr)) (fun i _ => T.length - (intOf i).toNat)
  case atStart => exact ⟨0, Nat.zero_le _, rfl, Lib.hid rfl, Lib.hid rfl⟩
  case round =>
    obtain ⟨k, hk, rfl, hA, hW⟩ := hrel
    obtain rfl := hW.out
    by_cases hlt : k < T.length
    · obtain ⟨g, rfl, hlo, hhi, c0, hf⟩ := HI.out k hlt
      clear hf
      obtain ⟨x, hx⟩ : ∃ x, T.getD k 0 = x := ⟨_, rfl⟩
      dsimp only at c0
      rw [hx] at c0
      have HX := Lib.hid hx
      clear hx
      rcases h1 : inB x (-1000) 20000 with _ | _
      · have H1 := Lib.hid h1
        have HP : Hid (r = false) := Lib.hid (by rw [← HR.out]; exact tr_bad hlt (by rw [HX.out, h1]))
        clear h1
        go_wp2_with fail
        refine (depthE_spec _ _ H1.out _).mono ?_
        rintro e w' ⟨rfl, rfl⟩
        go_wp2_with fail
        go_ret
        exact ⟨ret_bool HP.out.symm, rfl⟩
      have H1 := Lib.hid h1
      have HA2 : Hid (trK T (k + 1) = true) := Lib.hid (by rw [trK_succ, hA.out, HX.out, h1]; rfl)
      clear h1
      go_wp2_with fail
      refine (depthE_spec _ _ H1.out _).mono ?_
      rintro e w' ⟨rfl, hw'⟩
      have HW' := Lib.hid hw'
      obtain rfl := hw'
      go_wp2_with fail
      go_roundw
      case rel => exact ⟨k + 1, by omega, by go_num, HA2, HW'⟩
      case measure => simp [intOf]; omega
    · obtain rfl : k = T.length := by omega
      obtain ⟨v, hv⟩ : ∃ v, inB (T.length : Int) 3 30 = v := ⟨_, rfl⟩
      have HV := Lib.hid hv
      have HP : Hid (r = v) := Lib.hid (by
        rw [← HR.out, ← hv]
        unfold trB
        rw [hA.out, Bool.true_and])
      clear hv
      go_wp2_with fail
      refine (l1In_v _ _ _ _ HV.out _).mono ?_
      rintro e w' ⟨rfl, rfl⟩
      go_wp2_with fail
      go_ret
      exact ⟨ret_bool HP.out.symm, rfl⟩
theorem isTrE_spec (A : Option Addr) (C lo hi : Nat) (T : List Int) (r : Bool) (hr : trB T = r) (w : World) (ht : IFun w lo hi A T.length (fun j => T.getD j 0)) (hm : T.length ≤ 1048576) :
    Calls Try.prog 21 #[.slice A T.length C] w fun e w' => e = .returned (.bool r) ∧ w = w' := by
  have HI := Lib.hid ht
  have HR := Lib.hid hr
  clear ht hr
  go_enter Try.func21, Try.ntmps21
  go_wp2_with fail
  refine (goodE_spec _ _ _ _ _ _ HR.out _ HI.out hm).mono ?_
  rintro e w' ⟨rfl, rfl⟩
  go_wp2_with fail
  go_ret
  exact ⟨rfl, rfl⟩
theorem askE_spec (A : Option Addr) (C lo hi : Nat) (T : List Int) (l : Int) (r : Bool) (hr : akB T l = r) (w : World) (ht : IFun w lo hi A T.length (fun j => T.getD j 0)) (hm : T.length ≤ 1048576) :
    Calls Try.prog 58 #[.slice A T.length C, .int .i64 l] w fun e w' => e = .returned (.bool r) ∧ w = w' := by
  have HI := Lib.hid ht
  clear ht
  rcases h1 : trB T with _ | _
  · have H1 := Lib.hid h1
    have HP : Hid (r = false) := Lib.hid (by rw [← hr]; exact ak_1 h1)
    clear h1 hr
    go_enter Try.func58, Try.ntmps58
    go_wp2_with fail
    refine (goodE_spec _ _ _ _ _ _ H1.out _ HI.out hm).mono ?_
    rintro e w' ⟨rfl, rfl⟩
    go_wp2_with fail
    go_ret
    exact ⟨ret_bool HP.out.symm, rfl⟩
  have H1 := Lib.hid h1
  obtain ⟨v, hv⟩ : ∃ v, inB l 1 5000 = v := ⟨_, rfl⟩
  have HV := Lib.hid hv
  have HP : Hid (r = v) := Lib.hid (by
    rw [← hr, ← hv]
    unfold akB lmB
    rw [h1, Bool.true_and])
  clear h1 hr hv
  go_enter Try.func58, Try.ntmps58
  go_wp2_with fail
  refine (goodE_spec _ _ _ _ _ _ H1.out _ HI.out hm).mono ?_
  rintro e w' ⟨rfl, rfl⟩
  go_wp2_with fail
  refine (l1In_v _ _ _ _ HV.out _).mono ?_
  rintro e w' ⟨rfl, rfl⟩
  go_wp2_with fail
  go_ret
  exact ⟨ret_bool HP.out.symm, rfl⟩
theorem limE_impl (n : Int) (v : Bool) (h : lmB n = v) (w : World) :
    Calls Try.prog 54 #[.int .i64 n] w fun e w' => e = .returned (.bool v) ∧ w = w' := by
  have H : Hid (inB n 1 5000 = v) := Lib.hid h
  clear h
  go_enter Try.func54, Try.ntmps54
  go_wp2_with fail
  refine (within_v _ _ _ _ H.out _).mono ?_
  rintro e w' ⟨rfl, rfl⟩
  go_wp2_with fail
  go_ret
  exact ⟨rfl, rfl⟩
theorem depthE_impl (n : Int) (b : Bool) (h : inB n (-1000) 20000 = b) (w : World) :
    Calls Try.prog 61 #[.int .i64 n] w fun e w' => e = .returned (.bool b) ∧ w = w' := by
  have H := Lib.hid h
  clear h
  go_enter Try.func61, Try.ntmps61
  go_wp2_with fail
  refine (within_v _ _ _ _ H.out _).mono ?_
  rintro e w' ⟨rfl, rfl⟩
  go_wp2_with fail
  go_ret
  exact ⟨rfl, rfl⟩
set_option maxHeartbeats 1600000 in
theorem isTrE_impl (A : Option Addr) (C lo hi : Nat) (T : List Int) (r : Bool) (hr : trB T = r) (w : World) (ht : IFun w lo hi A T.length (fun j => T.getD j 0)) (hm : T.length ≤ 1048576) :
    Calls Try.prog 20 #[.slice A T.length C] w fun e w' => e = .returned (.bool r) ∧ w = w' := by
  have HI := Lib.hid ht
  clear ht
  rcases h0 : inB (T.length : Int) 3 30 with _ | _
  · have H0 := Lib.hid h0
    have HP : Hid (r = false) := Lib.hid (by rw [← hr]; exact tr_len h0)
    clear h0 hr
    go_enter Try.func20, Try.ntmps20
    go_wp2_with fail
    refine (within_v _ _ _ _ H0.out _).mono ?_
    rintro e w' ⟨rfl, rfl⟩
    go_wp2_with fail
    go_ret
    exact ⟨ret_bool HP.out.symm, rfl⟩
  have H0 := Lib.hid h0
  have HR := Lib.hid hr
  clear h0 hr
  go_enter Try.func20, Try.ntmps20
  go_wp2_with fail
  refine (within_v _ _ _ _ H0.out _).mono ?_
  rintro e w' ⟨rfl, rfl⟩
  go_wp2_with fail
  go_loopw [11] (fun i wr => ∃ k : Nat, k ≤ T.length ∧ i = .int .i64 k ∧ Hid (trK T k = true) ∧ Hid (w = wr)) (fun i _ => T.length - (intOf i).toNat)
  case atStart => exact ⟨0, Nat.zero_le _, rfl, Lib.hid rfl, Lib.hid rfl⟩
  case round =>
    obtain ⟨k, hk, rfl, hA, hW⟩ := hrel
    obtain rfl := hW.out
    by_cases hlt : k < T.length
    · obtain ⟨g, rfl, hlo, hhi, c0, hf⟩ := HI.out k hlt
      clear hf
      obtain ⟨x, hx⟩ : ∃ x, T.getD k 0 = x := ⟨_, rfl⟩
      dsimp only at c0
      rw [hx] at c0
      have HX := Lib.hid hx
      clear hx
      rcases h1 : inB x (-1000) 20000 with _ | _
      · have H1 := Lib.hid h1
        have HP : Hid (r = false) := Lib.hid (by rw [← HR.out]; exact tr_bad hlt (by rw [HX.out, h1]))
        clear h1
        go_wp2_with fail
        refine (depthE_impl _ _ H1.out _).mono ?_
        rintro e w' ⟨rfl, rfl⟩
        go_wp2_with fail
        go_ret
        exact ⟨ret_bool HP.out.symm, rfl⟩
      have H1 := Lib.hid h1
      have HA2 : Hid (trK T (k + 1) = true) := Lib.hid (by rw [trK_succ, hA.out, HX.out, h1]; rfl)
      clear h1
      go_wp2_with fail
      refine (depthE_impl _ _ H1.out _).mono ?_
      rintro e w' ⟨rfl, hw'⟩
      have HW' := Lib.hid hw'
      obtain rfl := hw'
      go_wp2_with fail
      go_roundw
      case rel => exact ⟨k + 1, by omega, by go_num, HA2, HW'⟩
      case measure => simp [intOf]; omega
    · obtain rfl : k = T.length := by omega
      have HP : Hid (r = true) := Lib.hid (by rw [← HR.out]; exact tr_fine hA.out H0.out)
      go_wp2_with fail
      go_ret
      exact ⟨ret_bool HP.out.symm, rfl⟩
end Go.Proofs.Ytjekmmekkfmplaa
