/-
  Rounding: bounds of quotients, contracts of impl.roundedDown, spec.l4Floor over this translation. Conditions: stated at each theorem.
-/
import Derived.Test.YtjekmmekkfmplaaBase
namespace Go.Proofs.Ytjekmmekkfmplaa
open Go.RowKit

theorem tdiv_bd {n : Int} {x : Nat} (h1 : -1000000000000000 ≤ n) (h2 : n ≤ 1000000000000000) : -1000000000000000 ≤ n.tdiv (x : Int) ∧ n.tdiv (x : Int) ≤ 1000000000000000 := by
  have h : (n.tdiv (x : Int)).natAbs = n.natAbs / x := by
    have e := Int.natAbs_tdiv n (x : Int)
    rw [Int.natAbs_natCast] at e
    exact e
  have h3 : n.natAbs / x ≤ n.natAbs := Nat.div_le_self _ _
  omega
theorem ediv_bd {n x : Nat} (h : n ≤ 1000000000000) : 0 ≤ (n : Int) / (x : Int) ∧ (n : Int) / (x : Int) ≤ 1000000000000 := by
  rw [← Int.natCast_ediv]
  exact ⟨Int.natCast_nonneg _, Int.ofNat_le.2 (Nat.le_trans (Nat.div_le_self _ _) h)⟩
theorem floor_unique {a q r : Int} {D : Nat} (hD : 0 < D) (h : r + (D : Int) * q = a) (h0 : 0 ≤ r) (h1 : r < D) : a / (D : Int) = q :=
  ((Int.ediv_emod_unique (a := a) (b := (D : Int)) (Int.natCast_pos.2 hD)).2 ⟨h, h0, h1⟩).1
theorem tmod_parts (a : Int) {D : Nat} (hD : 0 < D) (ha : a < 0) : a.tmod D + (D : Int) * a.tdiv D = a ∧ a.tmod D ≤ 0 ∧ -(D : Int) < a.tmod D := by
  have hp : (0 : Int) < D := Int.natCast_pos.2 hD
  refine ⟨Int.tmod_add_mul_tdiv a D, ?_, ?_⟩
  · have h := Int.tmod_nonneg (a := -a) (D : Int) (by omega)
    rw [Int.neg_tmod] at h; omega
  · have h := Int.tmod_lt_of_pos (-a) hp
    rw [Int.neg_tmod] at h; omega
theorem floor_neg {a : Int} {D : Nat} (hD : 0 < D) (ha : a < 0) (hr : a.tmod D < 0) : a.tdiv D - 1 = a / (D : Int) := by
  obtain ⟨h1, h2, h3⟩ := tmod_parts a hD ha
  refine (floor_unique (r := a.tmod D + D) hD ?_ (by omega) (by omega)).symm
  rw [Int.mul_sub, Int.mul_one]; omega
theorem floor_whole {a : Int} {D : Nat} (hD : 0 < D) (ha : a < 0) (hr : ¬ a.tmod D < 0) : a.tdiv D = a / (D : Int) := by
  obtain ⟨h1, h2, h3⟩ := tmod_parts a hD ha
  exact (floor_unique (r := 0) hD (by omega) (by omega) (by omega)).symm
theorem floor_ceil {a : Int} {D N : Nat} (hD : 0 < D) (hN : -a + D - 1 = N) : -((N : Int) / (D : Int)) = a / (D : Int) := by
  have hp : (0 : Int) < D := Int.natCast_pos.2 hD
  have h1 := Int.emod_add_mul_ediv (N : Int) D
  have h2 := Int.emod_nonneg (N : Int) (show (D : Int) ≠ 0 by omega)
  have h3 := Int.emod_lt_of_pos (N : Int) hp
  refine (floor_unique (r := D - 1 - (N : Int) % D) hD ?_ (by omega) (by omega)).symm
  rw [Int.mul_neg]; omega
end Go.Proofs.Ytjekmmekkfmplaa
