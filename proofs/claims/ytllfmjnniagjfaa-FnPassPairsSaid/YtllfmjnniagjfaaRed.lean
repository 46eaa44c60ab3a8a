/-
  Contracts of spec.l1Least, spec.l1Most, spec.l2Reduce, impl.lowestTerms over this translation. Conditions: stated at each theorem.
-/
import Derived.Test.YtllfmjnniagjfaaFl
import Derived.BigRegion
import Derived.Deep.QuietTactic
import Derived.BigQuiet
namespace Go.Proofs.Ytllfmjnniagjfaa
open Go.RowKit

theorem least_any (a b : Int) (w : World) :
    Calls Try.prog 80 #[.int .i64 a, .int .i64 b] w fun e w' => e = .returned (.int .i64 (min a b)) ∧ w = w' := by
  by_cases h : a < b
  · have H : Hid (a = min a b) := by unfold Hid; omega
    go_enter Try.func80, Try.ntmps80
    go_wp2
    go_ret
    exact ⟨ret_int H.out, rfl⟩
  · have H : Hid (b = min a b) := by unfold Hid; omega
    go_enter Try.func80, Try.ntmps80
    go_wp2
    go_ret
    exact ⟨ret_int H.out, rfl⟩
theorem most_any (a b : Int) (w : World) :
    Calls Try.prog 79 #[.int .i64 a, .int .i64 b] w fun e w' => e = .returned (.int .i64 (max a b)) ∧ w = w' := by
  by_cases h : b < a
  · have H : Hid (a = max a b) := by unfold Hid; omega
    go_enter Try.func79, Try.ntmps79
    go_wp2
    go_ret
    exact ⟨ret_int H.out, rfl⟩
  · have H : Hid (b = max a b) := by unfold Hid; omega
    go_enter Try.func79, Try.ntmps79
    go_wp2
    go_ret
    exact ⟨ret_int H.out, rfl⟩

theorem ws_v (n v : Int) (h : max n (-n) = v) (w : World) (h1 : -9223372036854775807 ≤ n) (h2 : n ≤ 9223372036854775807) :
    Calls Try.prog 100 #[.int .i64 n] w fun e w' => e = .returned (.int .i64 v) ∧ w = w' := by
  by_cases hneg : n < -n
  · have H : Hid (-n = v) := by unfold Hid; omega
    clear h
    go_enter Try.func100, Try.ntmps100
    go_wp2_with fail
    go_ret
    exact ⟨ret_int H.out, rfl⟩
  · have H : Hid (n = v) := by unfold Hid; omega
    clear h
    go_enter Try.func100, Try.ntmps100
    go_wp2_with fail
    go_ret
    exact ⟨ret_int H.out, rfl⟩
def gd (num : Int) (den : Nat) : Nat := Nat.gcd num.natAbs den
def RedPost (num : Int) (den : Nat) (w : World) (e : Ending) (w' : World) : Prop :=
  e = .returned (.tuple #[.int .i64 (num.tdiv (gd num den : Nat)), .int .i64 ((den : Int) / (gd num den : Nat))]) ∧ Below w.heap.size w w'
set_option maxHeartbeats 800000 in
theorem reduce_spec (num : Int) (den : Nat) (w : World) (h1 : -1000000000000000 ≤ num) (h2 : num ≤ 1000000000000000) (h3 : 0 < den) (h4 : den ≤ 1000000000000) :
    Calls Try.prog 81 #[.int .i64 num, .int .i64 den] w (RedPost num den w) := by
  obtain ⟨m, hm⟩ : ∃ m : Nat, max num (-num) = m ∧ m ≤ 1000000000000000 ∧ m = num.natAbs := ⟨num.natAbs, by omega, by omega, rfl⟩
  have HM := Lib.hid hm.1
  have HMA := Lib.hid hm.2.2
  have hm2 := hm.2.1
  clear hm
  go_enter Try.func81, Try.ntmps81
  go_wp2_with fail
  refine (most_any _ _ _).mono ?_
  rintro e w' ⟨rfl, rfl⟩
  rw [HM.out]
  go_wp2_with fail
  go_loop [6, 7] (fun a b => ∃ x y : Nat, a = .int .i64 x ∧ b = .int .i64 y ∧ x ≤ 1000000000000000 ∧ y ≤ 1000000000000 ∧ 0 < x + y ∧ Hid (Nat.gcd x y = gd num den)) (fun _ b => (intOf b).toNat)
  case atStart => exact ⟨m, den, rfl, rfl, hm2, h4, by omega, by unfold Hid gd; rw [HMA.out]⟩
  case round =>
    obtain ⟨x, y, rfl, rfl, hx, hy, hp, hG⟩ := hrel
    by_cases hy0 : 0 < y
    · have hmod : ((x : Int) % (y : Int)) = ((x % y : Nat) : Int) := by omega
      have hlt : x % y < y := Nat.mod_lt _ hy0
      have hn0 : ((y : Int) == 0) = false := beq_eq_false_iff_ne.2 (by omega)
      have hn1 : ((y : Int) != 0) = true := by simp; omega
      have HG2 : Hid (Nat.gcd y (x % y) = gd num den) := by unfold Hid; rw [← hG.out, Nat.gcd_comm y, ← Nat.gcd_rec, Nat.gcd_comm]
      go_wp2_with fail
      go_round
      case rel => exact ⟨y, x % y, rfl, by first | rfl | rw [hmod], by omega, by omega, by omega, HG2⟩
      case measure => simp [intOf]; omega
    · obtain rfl : y = 0 := by omega
      have HX : Hid (x = gd num den) := by have := hG.out; rw [Nat.gcd_zero_right] at this; exact this
      have hx0 : 0 < x := by omega
      have hn0 : ((x : Int) == 0) = false := beq_eq_false_iff_ne.2 (by omega)
      have hd1 : -1000000000000000 ≤ num.tdiv (x : Int) ∧ num.tdiv (x : Int) ≤ 1000000000000000 := tdiv_bd h1 h2
      have hd2 : 0 ≤ (den : Int) / (x : Int) ∧ (den : Int) / (x : Int) ≤ 1000000000000 := ediv_bd h4
      obtain ⟨hd11, hd12⟩ := hd1
      obtain ⟨hd21, hd22⟩ := hd2
      have hw1 : IntKind.i64.wrap (num.tdiv (x : Int)) = num.tdiv (x : Int) := IntWalk.i64_in _ (by omega)
      have hw2 : wrap64 ((den : Int) / (x : Int)) = (den : Int) / (x : Int) := by unfold wrap64; omega
      go_wp2_with fail
      refine region_later (W := w) (by kernel_rfl) (by kernel_rfl) (Below.refl _ _) ?_
      repeat (go_big_quiet_step (fail))
      refine wpQuiet_nil ?_
      intro W1 hW1
      have HL : Hid (Below w.heap.size w W1) := by obtain ⟨x, rfl⟩ := hW1; exact Lib.hid x.below
      clear hW1
      go_wp2_with fail
      go_ret2
      exact ⟨by rw [← HX.out]; rfl, HL.out⟩
set_option maxHeartbeats 800000 in
theorem lowest_impl (num : Int) (den : Nat) (w : World) (h1 : -1000000000000000 ≤ num) (h2 : num ≤ 1000000000000000) (h3 : 0 < den) (h4 : den ≤ 1000000000000) :
    Calls Try.prog 74 #[.int .i64 num, .int .i64 den] w (RedPost num den w) := by
  obtain ⟨m, hm⟩ : ∃ m : Nat, max num (-num) = m ∧ m ≤ 1000000000000000 ∧ m = num.natAbs := ⟨num.natAbs, by omega, by omega, rfl⟩
  have HM := Lib.hid hm.1
  have HMA := Lib.hid hm.2.2
  have hm2 := hm.2.1
  clear hm
  go_enter Try.func74, Try.ntmps74
  go_wp2_with fail
  refine (ws_v num m HM.out _ (by omega) (by omega)).mono ?_
  rintro e w' ⟨rfl, rfl⟩
  go_wp2_with fail
  go_loopw [6, 7] (fun b a wr => ∃ x y : Nat, b = .int .i64 x ∧ a = .int .i64 y ∧ x ≤ 1000000000000000 ∧ y ≤ 1000000000000000 ∧ 0 < x ∧ Hid (Nat.gcd x y = gd num den) ∧ Hid (Below w.heap.size w wr)) (fun _ a _ => (intOf a).toNat)
  case atStart => exact ⟨den, m, rfl, rfl, by omega, hm2, h3, by unfold Hid gd; rw [HMA.out, Nat.gcd_comm], Lib.hid (Below.refl _ _)⟩
  case round =>
    obtain ⟨x, y, rfl, rfl, hx, hy, hp, hG, hB⟩ := hrel
    obtain ⟨W0, rfl⟩ : ∃ W : World, W = wr := ⟨_, rfl⟩
    by_cases hy0 : 0 < y
    · have hmod : ((x : Int) % (y : Int)) = ((x % y : Nat) : Int) := by omega
      have hlt : x % y < y := Nat.mod_lt _ hy0
      have hn0 : ((y : Int) == 0) = false := beq_eq_false_iff_ne.2 (by omega)
      have HG2 : Hid (Nat.gcd y (x % y) = gd num den) := by unfold Hid; rw [← hG.out, Nat.gcd_comm y, ← Nat.gcd_rec, Nat.gcd_comm]
      go_wp2_with fail
      refine region_later (W := W0) (by kernel_rfl) (by kernel_rfl) (Below.refl _ _) ?_
      repeat (go_big_quiet_step (fail))
      refine wpQuiet_nil ?_
      intro W1 hW1
      have HL : Hid (Below W0.heap.size W0 W1) := by obtain ⟨x, rfl⟩ := hW1; exact Lib.hid x.below
      clear hW1
      have HT := Lib.hid (bthen hB.out HL.out hB.out.size)
      go_wp2_with fail
      go_roundw
      case rel => exact ⟨y, x % y, rfl, by first | rfl | rw [hmod], by omega, by omega, by omega, HG2, HT⟩
      case measure => simp [intOf]; omega
    · obtain rfl : y = 0 := by omega
      have HX : Hid (x = gd num den) := by have := hG.out; rw [Nat.gcd_zero_right] at this; exact this
      have hx0 := hp
      have hn0 : ((x : Int) == 0) = false := beq_eq_false_iff_ne.2 (by omega)
      have hd1 : -1000000000000000 ≤ num.tdiv (x : Int) ∧ num.tdiv (x : Int) ≤ 1000000000000000 := tdiv_bd h1 h2
      have hd2 : 0 ≤ (den : Int) / (x : Int) ∧ (den : Int) / (x : Int) ≤ 1000000000000 := ediv_bd h4
      obtain ⟨hd11, hd12⟩ := hd1
      obtain ⟨hd21, hd22⟩ := hd2
      have hw1 : IntKind.i64.wrap (num.tdiv (x : Int)) = num.tdiv (x : Int) := IntWalk.i64_in _ (by omega)
      have hw2 : wrap64 ((den : Int) / (x : Int)) = (den : Int) / (x : Int) := by unfold wrap64; omega
      go_wp2_with fail
      refine region_later (W := W0) (by kernel_rfl) (by kernel_rfl) (Below.refl _ _) ?_
      repeat (go_big_quiet_step (fail))
      refine wpQuiet_nil ?_
      intro W1 hW1
      have HL : Hid (Below W0.heap.size W0 W1) := by obtain ⟨x, rfl⟩ := hW1; exact Lib.hid x.below
      clear hW1
      have HT := Lib.hid (bthen hB.out HL.out hB.out.size)
      go_wp2_with fail
      go_ret2
      exact ⟨by rw [← HX.out]; rfl, HT.out⟩

end Go.Proofs.Ytllfmjnniagjfaa
