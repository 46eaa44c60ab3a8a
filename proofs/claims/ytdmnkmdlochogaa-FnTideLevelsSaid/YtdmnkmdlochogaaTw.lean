/-
  Numbers within limits, handed over as a variadic row: contract of impl.areWithin at two numbers over this translation. Conditions: stated at the theorem.
-/
import Derived.Test.YtdmnkmdlochogaaBase
namespace Go.Proofs.Ytdmnkmdlochogaa
open Go.RowKit

set_option maxHeartbeats 800000 in
theorem two_within (lo hi x y : Int) (v : Bool) (h : (inB x lo hi && inB y lo hi) = v) (g : Nat) (w : World) (h0 : w.cell? ⟨g, 0, none⟩ = some (.int .i64 x)) (h1 : w.cell? ⟨g, 1, none⟩ = some (.int .i64 y)) :
    Calls Try.prog 114 #[.int .i64 lo, .int .i64 hi, .slice (some ⟨g, 0, none⟩) 2 2] w fun e w' => e = .returned (.bool v) ∧ w = w' := by
  rcases hx : inB x lo hi with _ | _
  · have HX := Lib.hid hx
    have HR : Hid (v = false) := by unfold Hid; rw [← h, hx]; rfl
    clear h hx
    go_enter Try.func114, Try.ntmps114
    go_wp2_with fail
    go_loop [11] (fun i => i = .int .i64 ((0 : Nat) : Int)) (fun i => (2 - intOf i).toNat)
    case atStart => rfl
    case round =>
      obtain rfl := hrel
      go_wp2_with fail
      refine (within_v _ _ _ _ HX.out _).mono ?_
      rintro e w' ⟨rfl, rfl⟩
      go_wp2_with fail
      go_ret
      exact ⟨ret_bool HR.out.symm, rfl⟩
  · have HX := Lib.hid hx
    have HR : Hid (v = inB y lo hi) := by unfold Hid; rw [← h, hx]; rfl
    clear h hx
    rcases hy : inB y lo hi with _ | _
    · have HY := Lib.hid hy
      have HR2 := Lib.hid (HR.out.trans hy)
      clear hy
      go_enter Try.func114, Try.ntmps114
      go_wp2_with fail
      go_loop [11] (fun i => i = .int .i64 ((0 : Nat) : Int) ∨ i = .int .i64 ((1 : Nat) : Int)) (fun i => (2 - intOf i).toNat)
      case atStart => exact .inl rfl
      case round =>
        rcases hrel with rfl | rfl
        · go_wp2_with fail
          refine (within_v _ _ _ _ HX.out _).mono ?_
          rintro e w' ⟨rfl, rfl⟩
          go_wp2_with fail
          go_round
          case rel => exact .inr (by go_num)
          case measure => simp [intOf]
        · go_wp2_with fail
          refine (within_v _ _ _ _ HY.out _).mono ?_
          rintro e w' ⟨rfl, rfl⟩
          go_wp2_with fail
          go_ret
          exact ⟨ret_bool HR2.out.symm, rfl⟩
    · have HY := Lib.hid hy
      have HR2 := Lib.hid (HR.out.trans hy)
      clear hy
      go_enter Try.func114, Try.ntmps114
      go_wp2_with fail
      go_loop [11] (fun i => i = .int .i64 ((0 : Nat) : Int) ∨ i = .int .i64 ((1 : Nat) : Int) ∨ i = .int .i64 ((2 : Nat) : Int)) (fun i => (2 - intOf i).toNat)
      case atStart => exact .inl rfl
      case round =>
        rcases hrel with rfl | rfl | rfl
        · go_wp2_with fail
          refine (within_v _ _ _ _ HX.out _).mono ?_
          rintro e w' ⟨rfl, rfl⟩
          go_wp2_with fail
          go_round
          case rel => exact .inr (.inl (by go_num))
          case measure => simp [intOf]
        · go_wp2_with fail
          refine (within_v _ _ _ _ HY.out _).mono ?_
          rintro e w' ⟨rfl, rfl⟩
          go_wp2_with fail
          go_round
          case rel => exact .inr (.inr (by go_num))
          case measure => simp [intOf]
        · go_wp2_with fail
          go_ret
          exact ⟨ret_bool HR2.out.symm, rfl⟩
/-- Two numbers in a row of their own. -/
theorem pair_box {w1 W0 : World} {x y : Int} {T : TypeId} (h : W0 = w1.alloc (.cells #[.int .i64 x, .int .i64 y] T)) :
    Hid (Below w1.heap.size w1 W0 ∧ Has W0 w1.heap.size [.int .i64 x, .int .i64 y]) := Lib.hid (by rw [h]; exact box1 (Below.refl _ _))
end Go.Proofs.Ytdmnkmdlochogaa
