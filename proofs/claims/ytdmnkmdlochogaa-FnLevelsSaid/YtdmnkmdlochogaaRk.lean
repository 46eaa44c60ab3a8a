/-
  Contracts of laws.rReadings, rGauge, rTable over this translation. Conditions: stated at each theorem.
-/
import Derived.Test.YtdmnkmdlochogaaSs
import Derived.Laws.StructEq
namespace Go.Proofs.Ytdmnkmdlochogaa
open Go.RowKit

set_option maxRecDepth 20000 in
set_option maxHeartbeats 1600000 in
theorem rR_same (A A' : Option Addr) (n c c' : Nat) (l : List (Int × Int)) (w : World) (h1 : Spots w w.heap.size A n l) (h2 : Spots w w.heap.size A' n l) (hm : n ≤ maxLen) :
    Calls Try.prog 19 #[.slice A n c, .slice A' n c'] w fun e w' => e = .returned (.bool true) ∧ Below w.heap.size w w' := by
  unfold maxLen at hm
  have H1 := Lib.hid h1
  have H2 := Lib.hid h2
  clear h1 h2
  go_enter Try.func19, Try.ntmps19
  go_wp2_with fail
  go_loopw [5] (fun i wr => ∃ k : Nat, k ≤ n ∧ i = .int .i64 k ∧ Hid (Below w.heap.size w wr)) (fun i _ => n - (intOf i).toNat)
  case atStart => exact ⟨0, Nat.zero_le _, rfl, Lib.hid (Below.refl _ _)⟩
  case round =>
    obtain ⟨k, hk, rfl, hB⟩ := hrel
    by_cases hlt : k < n
    · obtain ⟨b1, o1, x, y, rfl, hb1, hl1, p0, p1⟩ := (H1.out.on hB.out (Nat.le_refl _)).2 k hlt
      obtain ⟨b2, o2, x2, y2, rfl, hb2, hl2, q0, q1⟩ := (H2.out.on hB.out (Nat.le_refl _)).2 k hlt
      have e : (x, y) = (x2, y2) := Option.some.inj (hl1.symm.trans hl2)
      obtain ⟨rfl, rfl⟩ := Prod.mk.inj e
      clear hl1 hl2 e
      obtain ⟨W0, rfl⟩ : ∃ W : World, W = wr := ⟨_, rfl⟩
      go_wp2_with fail
      have lc0 := lcell (p0)
      have lc1 := lcell (p1)
      have lc2 := lcell (q0)
      have lc3 := lcell (q1)
      refine region_later (W := W0) (by kernel_rfl) (by kernel_rfl) (Below.refl _ _) ?_
      repeat (go_big_quiet_step (fail))
      refine wpQuiet_nil ?_
      intro W1 hW1
      have HL : Hid (Below W0.heap.size W0 W1) := by obtain ⟨x, rfl⟩ := hW1; exact Lib.hid x.below
      clear hW1 lc0 lc1 lc2 lc3
      have HT := Lib.hid (bthen hB.out HL.out hB.out.size)
      clear p0 p1 q0 q1
      go_wp2_with fail
      go_roundw
      case rel => exact ⟨k + 1, by omega, by go_num, HT⟩
      case measure => simp [intOf]; omega
    · obtain rfl : k = n := by omega
      go_wp2_with fail
      go_ret
      exact ⟨rfl, hB.out⟩
set_option maxHeartbeats 800000 in
theorem rI_b (A A' : Option Addr) (n c c' lo hi lo' hi' : Nat) (f : Nat → Int) (w : World) (h1 : IFun w lo hi A n f) (h2 : IFun w lo' hi' A' n f) (hm : n ≤ 1048576) :
    Calls Try.prog 27 #[.slice A n c, .slice A' n c'] w fun e w' => e = .returned (.bool true) ∧ Below w.heap.size w w' := by
  have H1 := Lib.hid h1
  have H2 := Lib.hid h2
  clear h1 h2
  go_enter Try.func27, Try.ntmps27
  go_wp2
  go_loopw [5] (fun i wr => ∃ k d : Nat, k ≤ n ∧ i = .int .i64 k ∧ wr = w.drewN d) (fun i _ => n - (intOf i).toNat)
  case atStart => exact ⟨0, 0, Nat.zero_le _, rfl, by rw [World.drewN_zero]⟩
  case round =>
    obtain ⟨k, d, hk, rfl, rfl⟩ := hrel
    by_cases hlt : k < n
    · obtain ⟨g, rfl, _, _, hc1, _⟩ := H1.out k hlt
      obtain ⟨g', rfl, _, _, hc2, _⟩ := H2.out k hlt
      go_wp2_with fail
      go_quiet (fail)
      go_wp2
      go_roundw
      case rel => exact ⟨k + 1, _, by omega, by go_num, rfl⟩
      case measure => simp [intOf]; omega
    · go_wp2
      go_ret
      exact ⟨rfl, bdrewN (Below.refl _ _) _⟩
end Go.Proofs.Ytdmnkmdlochogaa
