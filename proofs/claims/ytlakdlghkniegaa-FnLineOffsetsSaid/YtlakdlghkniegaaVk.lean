/-
  Contracts of laws.vInts, vCrossings, vHas, vWithin, vSize over this translation. Conditions: stated at each theorem.
-/
import Derived.Test.YtlakdlghkniegaaXo
import Derived.Test.YtlakdlghkniegaaKp
import Derived.Test.YtlakdlghkniegaaTc
namespace Go.Proofs.Ytlakdlghkniegaa
open Go.RowKit
set_option linter.unusedVariables false

set_option maxRecDepth 20000 in
set_option maxHeartbeats 1600000 in
theorem vX_same (A A' : Option Addr) (n c c' : Nat) (L : List XD) (w : World) (h1 : SdsX w w.heap.size A n L) (h2 : SdsX w w.heap.size A' n L) (hm : n ≤ maxLen) :
    Calls Try.prog 41 #[.slice A n c, .slice A' n c'] w fun e w' => e = .returned (.bool true) ∧ Below w.heap.size w w' := by
  unfold maxLen at hm
  have H1 := Lib.hid h1
  have H2 := Lib.hid h2
  clear h1 h2
  go_enter Try.func41, Try.ntmps41
  go_wp2_with fail
  go_loopw [5] (fun i wr => ∃ k : Nat, k ≤ n ∧ i = .int .i64 k ∧ Hid (Below w.heap.size w wr)) (fun i _ => n - (intOf i).toNat)
  case atStart => exact ⟨0, Nat.zero_le _, rfl, Lib.hid (Below.refl _ _)⟩
  case round =>
    obtain ⟨k, hk, rfl, hB⟩ := hrel
    by_cases hlt : k < n
    · obtain ⟨b1, o1, v, rfl, hb1, hL1, p0, p1, p2, p3⟩ := (sds_atX H1.out hB.out).2 k hlt
      obtain ⟨b2, o2, v', rfl, hb2, hL2, q0, q1, q2, q3⟩ := (sds_atX H2.out hB.out).2 k hlt
      obtain rfl : v = v' := Option.some.inj (hL1.symm.trans hL2)
      clear hL1 hL2
      obtain ⟨W0, rfl⟩ : ∃ W : World, W = wr := ⟨_, rfl⟩
      go_wp2_with fail
      have lc0 := lcell (p0)
      have lc1 := lcell (p1)
      have lc2 := lcell (p2)
      have lc3 := lcell (p3)
      have lc4 := lcell (q0)
      have lc5 := lcell (q1)
      have lc6 := lcell (q2)
      have lc7 := lcell (q3)
      refine region_later (W := W0) (by kernel_rfl) (by kernel_rfl) (Below.refl _ _) ?_
      repeat (go_big_quiet_step (fail))
      refine wpQuiet_nil ?_
      intro W1 hW1
      have HL : Hid (Below W0.heap.size W0 W1) := by obtain ⟨x, rfl⟩ := hW1; exact Lib.hid x.below
      clear hW1 lc0 lc1 lc2 lc3 lc4 lc5 lc6 lc7
      have HT := Lib.hid (bthen hB.out HL.out hB.out.size)
      clear p0 p1 p2 p3 q0 q1 q2 q3
      go_wp2_with fail
      go_roundw
      case rel => exact ⟨k + 1, by omega, by go_num, HT⟩
      case measure => simp [intOf]; omega
    · obtain rfl : k = n := by omega
      go_wp2_with fail
      go_ret
      exact ⟨rfl, hB.out⟩
set_option maxHeartbeats 800000 in
theorem vI_same (A A' : Option Addr) (n c c' lo hi lo' hi' : Nat) (f : Nat → Int) (w : World) (h1 : IFun w lo hi A n f) (h2 : IFun w lo' hi' A' n f) (hm : n ≤ 1048576) :
    Calls Try.prog 18 #[.slice A n c, .slice A' n c'] w fun e w' => e = .returned (.bool true) ∧ ∃ k, w' = w.drewN k := by
  have H1 := Lib.hid h1
  have H2 := Lib.hid h2
  clear h1 h2
  go_enter Try.func18, Try.ntmps18
  go_wp2
  go_loopw [5] (fun i wr => ∃ k d : Nat, k ≤ n ∧ i = .int .i64 k ∧ wr = w.drewN d) (fun i _ => n - (intOf i).toNat)
  case atStart => exact ⟨0, 0, Nat.zero_le _, rfl, by rw [World.drewN_zero]⟩
  case round =>
    obtain ⟨k, d, hk, rfl, rfl⟩ := hrel
    by_cases hlt : k < n
    · obtain ⟨g, rfl, _, _, hc1, _⟩ := H1.out k hlt
      obtain ⟨g', rfl, _, _, hc2, _⟩ := H2.out k hlt
      go_wp2_with fail
      go_quiet (fail)
      go_wp2
      go_roundw
      case rel => exact ⟨k + 1, _, by omega, by go_num, rfl⟩
      case measure => simp [intOf]; omega
    · go_wp2
      go_ret
      exact ⟨rfl, _, rfl⟩
theorem vSize_v (n v : Int) (h : szI n = v) (w : World) (h1 : -9223372036854775807 ≤ n) (h2 : n ≤ 9223372036854775807) :
    Calls Try.prog 31 #[.int .i64 n] w fun e w' => e = .returned (.int .i64 v) ∧ w = w' := by
  unfold szI at h
  by_cases hneg : n < 0
  · have H : Hid (-n = v) := by unfold Hid; omega
    clear h
    go_enter Try.func31, Try.ntmps31
    go_wp2_with fail
    go_ret
    exact ⟨ret_int H.out, rfl⟩
  · have H : Hid (n = v) := by unfold Hid; omega
    clear h
    go_enter Try.func31, Try.ntmps31
    go_wp2_with fail
    go_ret
    exact ⟨ret_int H.out, rfl⟩
set_option maxHeartbeats 800000 in
theorem vHas_yes (A : Option Addr) (n c lo hi : Nat) (f : Nat → Int) (x : Int) (w : World) (h : IFun w lo hi A n f) (hx : ∃ k, k < n ∧ f k = x) (hm : n ≤ 1048576) :
    Calls Try.prog 64 #[.slice A n c, .int .i64 x] w fun e w' => e = .returned (.bool true) ∧ w = w' := by
  have H := Lib.hid h
  have HX := Lib.hid hx
  clear h hx
  go_enter Try.func64, Try.ntmps64
  go_wp2_with fail
  go_loop [5] (fun i => ∃ k : Nat, k ≤ n ∧ i = .int .i64 k ∧ Hid (∀ j, j < k → f j ≠ x)) (fun i => n - (intOf i).toNat)
  case atStart => exact ⟨0, Nat.zero_le _, rfl, Lib.hid fun j h => absurd h (by omega)⟩
  case round =>
    obtain ⟨k, hk, rfl, hN⟩ := hrel
    by_cases hlt : k < n
    · obtain ⟨g, rfl, _, _, hc1, _⟩ := H.out k hlt
      by_cases he : f k = x
      · have hd1 : (f k == x) = true := beq_iff_eq.2 he
        clear he
        go_wp2_with fail
        go_ret
        exact ⟨rfl, rfl⟩
      · have hd1 : (f k == x) = false := beq_eq_false_iff_ne.2 he
        have HN2 : Hid (∀ j, j < k + 1 → f j ≠ x) := Lib.hid fun j hj => by
          rcases Nat.lt_or_ge j k with h | h
          · exact hN.out j h
          · obtain rfl : j = k := by omega
            exact he
        clear he
        go_wp2_with fail
        go_round
        case rel => exact ⟨k + 1, by omega, by go_num, HN2⟩
        case measure => simp [intOf]; omega
    · exfalso
      obtain ⟨j, hj, he⟩ := HX.out
      exact hN.out j (by omega) he
set_option maxHeartbeats 800000 in
theorem vWithin_yes (A A' : Option Addr) (n n' c c' lo hi lo' hi' : Nat) (f f' : Nat → Int) (w : World) (h : IFun w lo hi A n f) (h' : IFun w lo' hi' A' n' f') (hx : ∀ k, k < n → ∃ j, j < n' ∧ f' j = f k) (hm : n ≤ 1048576) (hm' : n' ≤ 1048576) :
    Calls Try.prog 21 #[.slice A n c, .slice A' n' c'] w fun e w' => e = .returned (.bool true) ∧ w = w' := by
  have H := Lib.hid h
  have H' := Lib.hid h'
  have HX := Lib.hid hx
  clear h h' hx
  go_enter Try.func21, Try.ntmps21
  go_wp2_with fail
  go_loopw [5] (fun i wr => ∃ k : Nat, k ≤ n ∧ i = .int .i64 k ∧ Hid (w = wr)) (fun i _ => n - (intOf i).toNat)
  case atStart => exact ⟨0, Nat.zero_le _, rfl, Lib.hid rfl⟩
  case round =>
    obtain ⟨k, hk, rfl, hW⟩ := hrel
    obtain rfl := hW.out
    by_cases hlt : k < n
    · obtain ⟨g, rfl, _, _, hc1, _⟩ := H.out k hlt
      go_wp2_with fail
      refine (vHas_yes A' n' c' _ _ f' (f k) _ H'.out (HX.out k hlt) hm').mono ?_
      rintro e w9 ⟨rfl, hw9⟩
      have HW9 := Lib.hid hw9
      clear hw9 hc1
      go_wp2_with fail
      go_roundw
      case rel => exact ⟨k + 1, by omega, by go_num, HW9⟩
      case measure => simp [intOf]; omega
    · go_wp2_with fail
      go_ret
      exact ⟨rfl, rfl⟩
end Go.Proofs.Ytlakdlghkniegaa
