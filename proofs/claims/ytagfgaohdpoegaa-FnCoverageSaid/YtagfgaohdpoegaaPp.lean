/-
  Rows of pairs of numbers in the laws: contracts of laws.eqIntA2, eqIntA2S, markIntA2S, heldIntA2S, vPairs over this translation. Conditions: stated at each theorem.
-/
import Derived.Test.YtagfgaohdpoegaaRd
import Derived.Test.YtagfgaohdpoegaaFb
namespace Go.Proofs.Ytagfgaohdpoegaa
open Go.RowKit
set_option linter.unusedVariables false

theorem Own2.farB {w w' : World} {lo hi lo' hi' n : Nat} {A : Option Addr} {l : List (Int × Int)} (h : Own2 w lo hi A n l) (hf : FarB lo' hi' w w') (hs : hi ≤ w.heap.size) (hd : hi ≤ lo' ∨ hi' ≤ lo) : Own2 w' lo hi A n l :=
  ⟨h.1, fun k hk => by
    obtain ⟨g, x, y, hA, h1, h2, hl, c0, c1, f0, f1⟩ := h.2 k hk
    have hb := hf.block g (by omega) (by omega)
    exact ⟨g, x, y, hA, h1, h2, hl, (World.cell?_of_block (a := ⟨g, _, none⟩) hb).trans c0, (World.cell?_of_block (a := ⟨g, _, none⟩) hb).trans c1, (World.frozen?_of_block (a := ⟨g, _, none⟩) hb).trans f0, (World.frozen?_of_block (a := ⟨g, _, none⟩) hb).trans f1⟩⟩
set_option maxHeartbeats 800000 in
theorem eqA2_same (x y : Int) (w : World) :
    Calls Try.prog 93 #[.agg #[.int .i64 x, .int .i64 y], .agg #[.int .i64 x, .int .i64 y]] w fun e w' => e = .returned (.bool true) ∧ Below w.heap.size w w' := by
  have HX := Lib.hid (box2 (w := w) (cs := #[.int .i64 x, .int .i64 y]) (ds := #[.int .i64 x, .int .i64 y]) (T := 40) (T' := 40) (Below.refl _ _))
  go_enter Try.func93, Try.ntmps93
  go_wp2_with fail
  go_loopw [5] (fun i wr => (i = .int .i64 ((0 : Nat) : Int) ∨ i = .int .i64 ((1 : Nat) : Int) ∨ i = .int .i64 ((2 : Nat) : Int)) ∧ Hid (Below w.heap.size w wr ∧ Has wr w.heap.size [.int .i64 x, .int .i64 y] ∧ Has wr (w.heap.size + 1) [.int .i64 x, .int .i64 y])) (fun i _ => (2 - intOf i).toNat)
  case atStart => exact ⟨.inl rfl, HX⟩
  case round =>
    obtain ⟨rfl | rfl | rfl, hI⟩ := hrel
    · have a0 := hI.out.2.1.at_ 0 _ rfl
      have b0 := hI.out.2.2.at_ 0 _ rfl
      go_wp2_with fail
      go_quiet (fail)
      have HI2 : Hid (Below w.heap.size w (wr.drewN nq) ∧ Has (wr.drewN nq) w.heap.size [.int .i64 x, .int .i64 y] ∧ Has (wr.drewN nq) (w.heap.size + 1) [.int .i64 x, .int .i64 y]) := Lib.hid ⟨bdrewN hI.out.1 _, hI.out.2.1.drewN _, hI.out.2.2.drewN _⟩
      go_wp2_with fail
      go_roundw
      case rel => exact ⟨.inr (.inl (by go_num)), HI2⟩
      case measure => simp [intOf]
    · have a0 := hI.out.2.1.at_ 1 _ rfl
      have b0 := hI.out.2.2.at_ 1 _ rfl
      go_wp2_with fail
      go_quiet (fail)
      have HI2 : Hid (Below w.heap.size w (wr.drewN nq) ∧ Has (wr.drewN nq) w.heap.size [.int .i64 x, .int .i64 y] ∧ Has (wr.drewN nq) (w.heap.size + 1) [.int .i64 x, .int .i64 y]) := Lib.hid ⟨bdrewN hI.out.1 _, hI.out.2.1.drewN _, hI.out.2.2.drewN _⟩
      go_wp2_with fail
      go_roundw
      case rel => exact ⟨.inr (.inr (by go_num)), HI2⟩
      case measure => simp [intOf]
    · go_wp2_with fail
      go_ret
      exact ⟨rfl, hI.out.1⟩
set_option maxHeartbeats 800000 in
theorem eqP_same (A A' : Option Addr) (n c c' : Nat) (l : List (Int × Int)) (w : World) (h1 : Spots w w.heap.size A n l) (h2 : Spots w w.heap.size A' n l) (hm : n ≤ maxLen) :
    Calls Try.prog 51 #[.slice A n c, .slice A' n c'] w fun e w' => e = .returned (.bool true) ∧ Below w.heap.size w w' := by
  unfold maxLen at hm
  go_enter Try.func51, Try.ntmps51
  go_wp2
  go_loopw [5] (fun i wr => ∃ k : Nat, k ≤ n ∧ i = .int .i64 k ∧ Hid (Below w.heap.size w wr)) (fun i _ => n - (intOf i).toNat)
  case atStart => exact ⟨0, Nat.zero_le _, rfl, Lib.hid (Below.refl _ _)⟩
  case round =>
    obtain ⟨k, hk, rfl, hB⟩ := hrel
    obtain ⟨W0, rfl⟩ : ∃ W : World, W = wr := ⟨_, rfl⟩
    by_cases hlt : k < n
    · obtain ⟨b1, o1, x, y, rfl, hb1, hl1, hc0, hc1⟩ := (h1.on hB.out (Nat.le_refl _)).2 k hlt
      obtain ⟨b2, o2, x2, y2, rfl, hb2, hl2, hd0, hd1⟩ := (h2.on hB.out (Nat.le_refl _)).2 k hlt
      have e : (x, y) = (x2, y2) := Option.some.inj (hl1.symm.trans hl2)
      obtain ⟨rfl, rfl⟩ := Prod.mk.inj e
      clear hl1 hl2 e
      go_wp2_with fail
      have lc0 := lcell (hc0)
      have lc1 := lcell (hc1)
      have lc2 := lcell (hd0)
      have lc3 := lcell (hd1)
      refine region_later (W := W0) (by kernel_rfl) (by kernel_rfl) (Below.refl _ _) ?_
      repeat (go_big_quiet_step (((go_at_call 93; exact later_call (eqA2_same _ _ _)))))
      refine wpQuiet_nil ?_
      intro W1 hW1
      have HL : Hid (Below W0.heap.size W0 W1) := by obtain ⟨x, rfl⟩ := hW1; exact Lib.hid x.below
      clear hW1 lc0 lc1 lc2 lc3
      have HT := Lib.hid (bthen hB.out HL.out hB.out.size)
      go_wp2_with fail
      go_roundw
      case rel => exact ⟨k + 1, by omega, by go_num, HT⟩
      case measure => simp [intOf]; omega
    · obtain rfl : k = n := by omega
      go_wp2
      go_ret
      exact ⟨rfl, hB.out⟩
theorem eqArr2 (x y : Int) (w : World) : (Op.equalIn 10000 40 (.agg #[.int .i64 x, .int .i64 y]) (.agg #[.int .i64 x, .int .i64 y])).run Try.prog w = .ok true w := by
  have u3 := Try.underlying3
  have a3 := Try.isAgg3
  have z3 := Try.sizeOf3
  rw [show (10000 : Nat) = 9999 + 1 from rfl, Op.equalIn]
  simp only [Sem.run_bind, run_underlying Try.underlying40, Result.andThen_ok]
  simp only [Std.Legacy.Range.forIn_eq_forIn_range', Std.Legacy.Range.size, Nat.sub_zero, Nat.add_sub_cancel, Nat.div_one, List.range'_succ, List.range'_zero, List.forIn_cons, List.forIn_nil]
  go_simp
set_option maxHeartbeats 800000 in
theorem vPairs_same (A A' : Option Addr) (n c c' : Nat) (l : List (Int × Int)) (w : World) (h1 : Spots w w.heap.size A n l) (h2 : Spots w w.heap.size A' n l) (hm : n ≤ maxLen) :
    Calls Try.prog 24 #[.slice A n c, .slice A' n c'] w fun e w' => e = .returned (.bool true) ∧ Below w.heap.size w w' := by
  unfold maxLen at hm
  go_enter Try.func24, Try.ntmps24
  go_wp2
  go_loopw [5] (fun i wr => ∃ k : Nat, k ≤ n ∧ i = .int .i64 k ∧ Hid (Below w.heap.size w wr)) (fun i _ => n - (intOf i).toNat)
  case atStart => exact ⟨0, Nat.zero_le _, rfl, Lib.hid (Below.refl _ _)⟩
  case round =>
    obtain ⟨k, hk, rfl, hB⟩ := hrel
    obtain ⟨W0, rfl⟩ : ∃ W : World, W = wr := ⟨_, rfl⟩
    by_cases hlt : k < n
    · obtain ⟨b1, o1, x, y, rfl, hb1, hl1, hc0, hc1⟩ := (h1.on hB.out (Nat.le_refl _)).2 k hlt
      obtain ⟨b2, o2, x2, y2, rfl, hb2, hl2, hd0, hd1⟩ := (h2.on hB.out (Nat.le_refl _)).2 k hlt
      have e : (x, y) = (x2, y2) := Option.some.inj (hl1.symm.trans hl2)
      obtain ⟨rfl, rfl⟩ := Prod.mk.inj e
      clear hl1 hl2 e
      go_wp2_with fail
      have heq : ∀ w, (Op.equalIn 10000 40 (.agg #[.int .i64 x, .int .i64 y]) (.agg #[.int .i64 x, .int .i64 y])).run Try.prog w = .ok true w := eqArr2 x y
      have lc0 := lcell (hc0)
      have lc1 := lcell (hc1)
      have lc2 := lcell (hd0)
      have lc3 := lcell (hd1)
      refine region_later (W := W0) (by kernel_rfl) (by kernel_rfl) (Below.refl _ _) ?_
      repeat (go_big_quiet_step ((fail)))
      refine wpQuiet_nil ?_
      intro W1 hW1
      have HL : Hid (Below W0.heap.size W0 W1) := by obtain ⟨x, rfl⟩ := hW1; exact Lib.hid x.below
      clear hW1 lc0 lc1 lc2 lc3
      have HT := Lib.hid (bthen hB.out HL.out hB.out.size)
      go_wp2_with fail
      go_roundw
      case rel => exact ⟨k + 1, by omega, by go_num, HT⟩
      case measure => simp [intOf]; omega
    · obtain rfl : k = n := by omega
      go_wp2
      go_ret
      exact ⟨rfl, hB.out⟩
set_option maxHeartbeats 1600000 in
theorem markP_any (A : Option Addr) (n c lo hi : Nat) (l : List (Int × Int)) (w : World) (h : Own2 w lo hi A n l) (hm : n ≤ 1048576) :
    Calls Try.prog 53 #[.slice A n c, .int .i64 1] w (MarkedR lo hi A n w) := by
  have H := Lib.hid (mk2_start h)
  clear h
  go_enter Try.func53, Try.ntmps53
  go_wp2
  go_loopw [1, 5] (fun m i wr => ∃ k : Nat, k ≤ n ∧ i = .int .i64 k ∧ m = .int .i64 (2 * (k : Int) + 1) ∧ Hid (Mk2 wr lo hi A n k ∧ Far lo hi w wr)) (fun _ i _ => n - (intOf i).toNat)
  case atStart => exact ⟨0, Nat.zero_le _, rfl, rfl, Lib.hid ⟨H.out, Far.refl _ _ _⟩⟩
  case round =>
    obtain ⟨k, hk, rfl, rfl, hI⟩ := hrel
    obtain ⟨W0, rfl⟩ : ∃ W : World, W = wr := ⟨_, rfl⟩
    by_cases hlt : k < n
    · obtain ⟨g, x, y, rfl, hg1, hg2, _, hc0, hc1, hf0, hf1⟩ := hI.out.1 k hlt
      have HN := Lib.hid (And.intro (mk2_step hI.out.1) ((hI.out.2.setCell (p := ⟨g, k * 2, none⟩) hg1 hg2 (.int .i64 (2 * (k : Int) + 1))).setCell (p := ⟨g, k * 2 + 1, none⟩) hg1 hg2 (.int .i64 (2 * (k : Int) + 1 + 1))))
      have hd1 : (W0.setCell ⟨g, k * 2, none⟩ (.int .i64 (2 * (k : Int) + 1))).cell? ⟨g, k * 2 + 1, none⟩ = some (.int .i64 y) := (World.cell?_setCell_other _ _ _ _ (by simp)).trans hc1
      have hg1' : (W0.setCell ⟨g, k * 2, none⟩ (.int .i64 (2 * (k : Int) + 1))).frozen? ⟨g, k * 2 + 1, none⟩ = false := (World.frozen?_setCell _ _ _ _).trans hf1
      go_wp2_with fail
      refine wp_loop_rounds 3 ?_
      rw [rounds_succ]
      go_wp2_with fail
      rw [rounds_succ]
      go_wp2_with fail
      rw [rounds_succ]
      go_wp2_with fail
      exact ⟨⟨k + 1, by omega, by go_num, by go_num, HN⟩, by simp [intOf]; omega⟩
    · obtain rfl : k = n := by omega
      have HR := Lib.hid (mk2_end hI.out.1)
      go_wp2
      go_ret
      exact ⟨rfl, HR.out, hI.out.2⟩
set_option maxHeartbeats 1600000 in
theorem heldP_any (A : Option Addr) (n c lo hi : Nat) (w : World) (h : Own2 w lo hi A n (marks2 n)) (hm : n ≤ 1048576) :
    Calls Try.prog 54 #[.slice A n c, .int .i64 1] w fun e w' => e = .returned (.int .i64 (2 * (n : Int) + 1)) ∧ w = w' := by
  have H := Lib.hid h.2
  clear h
  go_enter Try.func54, Try.ntmps54
  go_wp2
  go_loop [1, 5] (fun m i => ∃ k : Nat, k ≤ n ∧ i = .int .i64 k ∧ m = .int .i64 (2 * (k : Int) + 1)) (fun _ i => n - (intOf i).toNat)
  case atStart => exact ⟨0, Nat.zero_le _, rfl, rfl⟩
  case round =>
    obtain ⟨k, hk, rfl, rfl⟩ := hrel
    by_cases hlt : k < n
    · obtain ⟨g, x, y, rfl, _, _, hl, hc0, hc1, _⟩ := H.out k hlt
      rw [marks2_at n k hlt] at hl
      obtain ⟨rfl, hy⟩ := Prod.mk.inj (Option.some.inj hl)
      obtain rfl : y = 2 * (k : Int) + 1 + 1 := by omega
      clear hl hy
      go_wp2_with fail
      refine wp_loop_rounds 3 ?_
      rw [rounds_succ]
      go_wp2_with fail
      rw [rounds_succ]
      go_wp2_with fail
      rw [rounds_succ]
      go_wp2_with fail
      exact ⟨⟨k + 1, by omega, by go_num, by go_num⟩, by simp [intOf]; omega⟩
    · obtain rfl : k = n := by omega
      go_wp2
      go_ret
      exact ⟨rfl, rfl⟩
end Go.Proofs.Ytagfgaohdpoegaa
