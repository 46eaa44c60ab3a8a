/-
  Rounding up: contract of impl.roundedUp over this translation (split out of Vs). Conditions: stated at each theorem.
-/
import Derived.Test.YtdmnkmdlochogabFl
namespace Go.Proofs.Ytdmnkmdlochogab
open Go.RowKit

theorem up_floor {a b : Int} (hb : 0 < b) : -((-a) / b) = (a + b - 1) / b := by
  have h1 := Int.emod_add_mul_ediv (-a) b
  have h2 := Int.emod_nonneg (-a) (show b ≠ 0 by omega)
  have h3 := Int.emod_lt_of_pos (-a) hb
  refine (((Int.ediv_emod_unique (a := a + b - 1) (b := b) (q := -((-a) / b)) (r := b - 1 - (-a) % b) hb).2 ⟨?_, by omega, by omega⟩).1).symm
  rw [Int.mul_neg]; omega
theorem up_bd {a b : Int} (h0 : 0 ≤ a) (hb : 0 < b) : 0 ≤ (a + b - 1) / b ∧ (a + b - 1) / b ≤ a + b - 1 := by
  refine ⟨Int.ediv_nonneg (by omega) (by omega), Int.ediv_le_self _ (by omega)⟩
theorem floor_int (a b v : Int) (h : a / b = v) (w : World) (h1 : -1000000000 ≤ a) (h2 : a ≤ 1000000000) (h3 : 0 < b) (h4 : b ≤ 1000000) :
    Calls Try.prog 159 #[.int .i64 a, .int .i64 b] w fun e w' => e = .returned (.int .i64 v) ∧ Below w.heap.size w w' := by
  obtain ⟨D, rfl⟩ : ∃ D : Nat, b = D := ⟨b.toNat, by omega⟩
  exact floor_impl a D v h w h1 h2 (by omega) (by omega)
theorem up_impl (a b v : Int) (h : (a + b - 1) / b = v) (w : World) (h1 : 0 ≤ a) (h2 : a ≤ 1000000000) (h3 : 0 < b) (h4 : b ≤ 1000000) :
    Calls Try.prog 87 #[.int .i64 a, .int .i64 b] w fun e w' => e = .returned (.int .i64 v) ∧ Below w.heap.size w w' := by
  have hv := up_bd h1 h3
  rw [h] at hv
  have H : Hid ((-a) / b = -v) := by
    unfold Hid
    have := up_floor (a := a) h3
    omega
  clear h
  go_enter Try.func87, Try.ntmps87
  go_wp2_with fail
  refine (floor_int (-a) b (-v) H.out _ (by omega) (by omega) h3 h4).mono ?_
  rintro e w1 ⟨rfl, hb⟩
  have HT := Lib.hid hb
  clear hb
  go_wp2_with fail
  go_ret
  exact ⟨ret_int (by omega), HT.out⟩
end Go.Proofs.Ytdmnkmdlochogab
