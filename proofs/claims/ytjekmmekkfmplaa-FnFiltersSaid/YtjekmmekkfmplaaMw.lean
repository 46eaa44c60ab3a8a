/-
  Numbers within limits, handed over as a variadic row: contract of impl.areWithin at however many numbers over this translation. Conditions: stated at the theorem.
-/
import Derived.Test.YtjekmmekkfmplaaBase
namespace Go.Proofs.Ytjekmmekkfmplaa
open Go.RowKit

set_option maxHeartbeats 800000 in
theorem many_within (lo hi : Int) (xs : List Int) (v : Bool) (h : xs.all (fun x => inB x lo hi) = v) (hl : xs.length ≤ 100) (g c : Nat) (w : World) (hc : ∀ k x, xs[k]? = some x → w.cell? ⟨g, k, none⟩ = some (.int .i64 x)) :
    Calls Try.prog 65 #[.int .i64 lo, .int .i64 hi, .slice (some ⟨g, 0, none⟩) xs.length c] w fun e w' => e = .returned (.bool v) ∧ w = w' := by
  have H := Lib.hid h
  have HC := Lib.hid hc
  clear h hc
  go_enter Try.func65, Try.ntmps65
  go_wp2_with fail
  go_loop [11] (fun i => ∃ k : Nat, k ≤ xs.length ∧ i = .int .i64 k ∧ Hid ((xs.take k).all (fun x => inB x lo hi) = true)) (fun i => xs.length - (intOf i).toNat)
  case atStart => exact ⟨0, Nat.zero_le _, rfl, Lib.hid (by simp)⟩
  case round =>
    obtain ⟨k, hk, rfl, hA⟩ := hrel
    by_cases hlt : k < xs.length
    · obtain ⟨x, hx⟩ : ∃ x, xs[k]? = some x := ⟨_, List.getElem?_eq_getElem hlt⟩
      have c0 := HC.out k x hx
      rcases hv : inB x lo hi with _ | _
      · have HV := Lib.hid hv
        have HR : Hid (v = false) := by unfold Hid; rw [← H.out]; exact all_bad (fun x => inB x lo hi) hx hv
        clear hv hx
        go_wp2_with fail
        refine (within_v _ _ _ _ HV.out _).mono ?_
        rintro e w' ⟨rfl, rfl⟩
        go_wp2_with fail
        go_ret
        exact ⟨ret_bool HR.out.symm, rfl⟩
      · have HV := Lib.hid hv
        have HS : Hid ((xs.take (k + 1)).all (fun x => inB x lo hi) = true) := by unfold Hid; rw [all_snoc (fun x => inB x lo hi) hx, hA.out, hv]; rfl
        clear hv hx
        go_wp2_with fail
        refine (within_v _ _ _ _ HV.out _).mono ?_
        rintro e w' ⟨rfl, rfl⟩
        go_wp2_with fail
        go_round
        case rel => exact ⟨k + 1, by omega, by go_num, HS⟩
        case measure => simp [intOf]; omega
    · obtain rfl : k = xs.length := by omega
      have HR : Hid (v = true) := by unfold Hid; rw [← H.out]; have := hA.out; rwa [List.take_length] at this
      go_wp2_with fail
      go_ret
      exact ⟨ret_bool HR.out.symm, rfl⟩
theorem three_within (lo hi x y z : Int) (v : Bool) (h : (inB x lo hi && inB y lo hi && inB z lo hi) = v) (g c : Nat) (w : World) (h0 : w.cell? ⟨g, 0, none⟩ = some (.int .i64 x)) (h1 : w.cell? ⟨g, 1, none⟩ = some (.int .i64 y)) (h2 : w.cell? ⟨g, 2, none⟩ = some (.int .i64 z)) :
    Calls Try.prog 65 #[.int .i64 lo, .int .i64 hi, .slice (some ⟨g, 0, none⟩) 3 c] w fun e w' => e = .returned (.bool v) ∧ w = w' :=
  many_within lo hi [x, y, z] v (by rw [← h]; simp [Bool.and_assoc]) (by simp) g c w fun k u hu => by
    match k, hu with
    | 0, hu => obtain rfl : x = u := by simpa using hu
               exact h0
    | 1, hu => obtain rfl : y = u := by simpa using hu
               exact h1
    | 2, hu => obtain rfl : z = u := by simpa using hu
               exact h2
theorem pair_within (lo hi x y : Int) (v : Bool) (h : (inB x lo hi && inB y lo hi) = v) (g c : Nat) (w : World) (h0 : w.cell? ⟨g, 0, none⟩ = some (.int .i64 x)) (h1 : w.cell? ⟨g, 1, none⟩ = some (.int .i64 y)) :
    Calls Try.prog 65 #[.int .i64 lo, .int .i64 hi, .slice (some ⟨g, 0, none⟩) 2 c] w fun e w' => e = .returned (.bool v) ∧ w = w' :=
  many_within lo hi [x, y] v (by rw [← h]; simp) (by simp) g c w fun k u hu => by
    match k, hu with
    | 0, hu => obtain rfl : x = u := by simpa using hu
               exact h0
    | 1, hu => obtain rfl : y = u := by simpa using hu
               exact h1
end Go.Proofs.Ytjekmmekkfmplaa
