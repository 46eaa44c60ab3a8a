/-
  Contracts of laws.rInts, rTable, rPasses, rHas over this translation. Conditions: stated at each theorem.
-/
import Derived.Test.YtllfmjnniagjfaaJo
import Derived.Test.YtllfmjnniagjfaaSj
import Derived.Test.YtllfmjnniagjfaaTc
import Derived.Laws.StructEq
namespace Go.Proofs.Ytllfmjnniagjfaa
open Go.RowKit
set_option linter.unusedVariables false

set_option maxHeartbeats 800000 in
theorem rI_b (A A' : Option Addr) (n c c' lo hi lo' hi' : Nat) (f : Nat → Int) (w : World) (h1 : IFun w lo hi A n f) (h2 : IFun w lo' hi' A' n f) (hm : n ≤ 1048576) :
    Calls Try.prog 19 #[.slice A n c, .slice A' n c'] w fun e w' => e = .returned (.bool true) ∧ Below w.heap.size w w' := by
  have H1 := Lib.hid h1
  have H2 := Lib.hid h2
  clear h1 h2
  go_enter Try.func19, Try.ntmps19
  go_wp2
  go_loopw [5] (fun i wr => ∃ k d : Nat, k ≤ n ∧ i = .int .i64 k ∧ wr = w.drewN d) (fun i _ => n - (intOf i).toNat)
  case atStart => exact ⟨0, 0, Nat.zero_le _, rfl, by rw [World.drewN_zero]⟩
  case round =>
    obtain ⟨k, d, hk, rfl, rfl⟩ := hrel
    by_cases hlt : k < n
    · obtain ⟨g, rfl, _, _, hc1, _⟩ := H1.out k hlt
      obtain ⟨g', rfl, _, _, hc2, _⟩ := H2.out k hlt
      go_wp2_with fail
      go_quiet (fail)
      go_wp2
      go_roundw
      case rel => exact ⟨k + 1, _, by omega, by go_num, rfl⟩
      case measure => simp [intOf]; omega
    · go_wp2
      go_ret
      exact ⟨rfl, bdrewN (Below.refl _ _) _⟩
set_option maxHeartbeats 1600000 in
theorem rT_same (A A' : Option Addr) (n c c' lo hi lo' hi' : Nat) (G G' : List Nat) (F : Nat → Nat → Int) (w : World) (h1 : RF w lo hi A n G F) (h2 : RF w lo' hi' A' n G' F) (hh : hi ≤ w.heap.size) (hh' : hi' ≤ w.heap.size) (hm : n ≤ 1048576) :
    Calls Try.prog 34 #[.slice A n c, .slice A' n c'] w fun e w' => e = .returned (.bool true) ∧ Below w.heap.size w w' := by
  have H1 := Lib.hid h1
  have H2 := Lib.hid h2
  have HL1 := Lib.hid h1.1
  have HL2 := Lib.hid h2.1
  clear h1 h2
  go_enter Try.func34, Try.ntmps34
  go_wp2_with fail
  go_loopw [5] (fun i wr => ∃ k : Nat, k ≤ n ∧ i = .int .i64 k ∧ Hid (Below w.heap.size w wr)) (fun i _ => n - (intOf i).toNat)
  case atStart => exact ⟨0, Nat.zero_le _, rfl, Lib.hid (Below.refl _ _)⟩
  case round =>
    obtain ⟨k, hk, rfl, hB⟩ := hrel
    obtain ⟨W0, rfl⟩ : ∃ W : World, W = wr := ⟨_, rfl⟩
    by_cases hlt : k < n
    · obtain ⟨g, gk, rfl, _, hg, _, _, hgk, _, c1, hI1⟩ := (H1.out.on hB.out hh).2.2 k hlt
      obtain ⟨g', gk', rfl, _, hg', _, _, hgk', _, c2, hI2⟩ := (H2.out.on hB.out hh').2.2 k hlt
      have HZ := Lib.hid hB.out.size
      have HI1 := Lib.hid (And.intro hI1 (Nat.le_trans (Nat.succ_le_of_lt hgk) (Nat.le_trans hh HZ.out)))
      have HI2 := Lib.hid (And.intro hI2 (Nat.le_trans (Nat.succ_le_of_lt hgk') (Nat.le_trans hh' HZ.out)))
      clear hI1 hI2
      go_wp2_with fail
      have lc0 := lcell (c1)
      have lc1 := lcell (c2)
      refine region_later (W := W0) (by kernel_rfl) (by kernel_rfl) (Below.refl _ _) ?_
      repeat (go_big_quiet_step (((go_at_call 19; exact later_call (rI_b _ _ _ _ _ _ _ _ _ _ _ (HI1.out.1.on (Later.below _) HI1.out.2) (HI2.out.1.on (Later.below _) HI2.out.2) (by decide))))))
      refine wpQuiet_nil ?_
      intro W1 hW1
      have HL : Hid (Below W0.heap.size W0 W1) := by obtain ⟨x, rfl⟩ := hW1; exact Lib.hid x.below
      clear hW1 lc0 lc1
      have HT := Lib.hid (bthen hB.out HL.out hB.out.size)
      clear c1 c2
      go_wp2_with fail
      go_roundw
      case rel => exact ⟨k + 1, by omega, by go_num, HT⟩
      case measure => simp [intOf]; omega
    · obtain rfl : k = n := by omega
      go_wp2_with fail
      go_ret
      exact ⟨rfl, hB.out⟩
set_option maxRecDepth 20000 in
set_option maxHeartbeats 1600000 in
theorem rP_same (A A' : Option Addr) (n c c' : Nat) (L : List PS) (w : World) (h1 : SdsJ w w.heap.size A n L) (h2 : SdsJ w w.heap.size A' n L) (hm : n ≤ maxLen) :
    Calls Try.prog 41 #[.slice A n c, .slice A' n c'] w fun e w' => e = .returned (.bool true) ∧ Below w.heap.size w w' := by
  unfold maxLen at hm
  have H1 := Lib.hid h1
  have H2 := Lib.hid h2
  clear h1 h2
  go_enter Try.func41, Try.ntmps41
  go_wp2_with fail
  go_loopw [5] (fun i wr => ∃ k : Nat, k ≤ n ∧ i = .int .i64 k ∧ Hid (Below w.heap.size w wr)) (fun i _ => n - (intOf i).toNat)
  case atStart => exact ⟨0, Nat.zero_le _, rfl, Lib.hid (Below.refl _ _)⟩
  case round =>
    obtain ⟨k, hk, rfl, hB⟩ := hrel
    by_cases hlt : k < n
    · obtain ⟨b1, o1, v, rfl, hb1, hL1, p0, p1, p2, p3, p4, p5⟩ := (sds_atJ H1.out hB.out).2 k hlt
      obtain ⟨b2, o2, v', rfl, hb2, hL2, q0, q1, q2, q3, q4, q5⟩ := (sds_atJ H2.out hB.out).2 k hlt
      obtain rfl : v = v' := Option.some.inj (hL1.symm.trans hL2)
      clear hL1 hL2
      obtain ⟨W0, rfl⟩ : ∃ W : World, W = wr := ⟨_, rfl⟩
      go_wp2_with fail
      have lc0 := lcell (p0)
      have lc1 := lcell (p1)
      have lc2 := lcell (p2)
      have lc3 := lcell (p3)
      have lc4 := lcell (p4)
      have lc5 := lcell (p5)
      have lc6 := lcell (q0)
      have lc7 := lcell (q1)
      have lc8 := lcell (q2)
      have lc9 := lcell (q3)
      have lc10 := lcell (q4)
      have lc11 := lcell (q5)
      refine region_later (W := W0) (by kernel_rfl) (by kernel_rfl) (Below.refl _ _) ?_
      repeat (go_big_quiet_step (fail))
      refine wpQuiet_nil ?_
      intro W1 hW1
      have HL : Hid (Below W0.heap.size W0 W1) := by obtain ⟨x, rfl⟩ := hW1; exact Lib.hid x.below
      clear hW1 lc0 lc1 lc2 lc3 lc4 lc5 lc6 lc7 lc8 lc9 lc10 lc11
      have HT := Lib.hid (bthen hB.out HL.out hB.out.size)
      clear p0 p1 p2 p3 p4 p5 q0 q1 q2 q3 q4 q5
      go_wp2_with fail
      go_roundw
      case rel => exact ⟨k + 1, by omega, by go_num, HT⟩
      case measure => simp [intOf]; omega
    · obtain rfl : k = n := by omega
      go_wp2_with fail
      go_ret
      exact ⟨rfl, hB.out⟩
set_option maxHeartbeats 800000 in
theorem rHas_v (A : Option Addr) (n c lo hi : Nat) (L : List Int) (x : Int) (r : Bool) (hr : decide (x ∈ L) = r) (w : World) (h1 : IFun w lo hi A n (fun j => L.getD j 0)) (hn : L.length = n) (hm : n ≤ 1048576) :
    Calls Try.prog 23 #[.slice A n c, .int .i64 x] w fun e w' => e = .returned (.bool r) ∧ w = w' := by
  have H1 := Lib.hid h1
  have HX := Lib.hid hr
  subst hn
  clear h1 hr
  go_enter Try.func23, Try.ntmps23
  go_wp2_with fail
  go_loop [5] (fun i => ∃ k : Nat, k ≤ L.length ∧ i = .int .i64 k ∧ Hid (∀ p, p < k → L.getD p 0 ≠ x)) (fun i => L.length - (intOf i).toNat)
  case atStart => exact ⟨0, Nat.zero_le _, rfl, Lib.hid fun p hp => absurd hp (by omega)⟩
  case round =>
    obtain ⟨k, hk, rfl, hN⟩ := hrel
    by_cases hlt : k < L.length
    · obtain ⟨g, rfl, _, _, hc1, _⟩ := H1.out k hlt
      obtain ⟨y, hy⟩ : ∃ y, L.getD k 0 = y := ⟨_, rfl⟩
      dsimp only at hc1
      rw [hy] at hc1
      by_cases he : y = x
      · have hd : (y == x) = true := by simpa using he
        have HR : Hid (true = r) := by
          unfold Hid
          rw [← HX.out]
          refine (decide_eq_true ?_).symm
          rw [← he, ← hy, List.getD_eq_getElem?_getD, List.getElem?_eq_getElem hlt]
          exact List.getElem_mem hlt
        clear he hy
        go_wp2_with fail
        go_ret
        exact ⟨ret_bool HR.out, rfl⟩
      · have hd : (y == x) = false := beq_eq_false_iff_ne.2 he
        have HN2 : Hid (∀ p, p < k + 1 → L.getD p 0 ≠ x) := Lib.hid fun p hp => by
          rcases Nat.lt_or_ge p k with h | h
          · exact hN.out p h
          · obtain rfl : p = k := by omega
            rw [hy]; exact he
        clear hy he
        go_wp2_with fail
        go_round
        case rel => exact ⟨k + 1, by omega, by go_num, HN2⟩
        case measure => simp [intOf]; omega
    · obtain rfl : k = L.length := by omega
      have HR : Hid (false = r) := by
        unfold Hid
        rw [← HX.out]
        refine (decide_eq_false fun hmem => ?_).symm
        obtain ⟨j, hj⟩ := List.mem_iff_getElem?.1 hmem
        exact hN.out j (List.getElem?_eq_some_iff.1 hj).1 (by rw [List.getD_eq_getElem?_getD, hj]; rfl)
      go_wp2_with fail
      go_ret
      exact ⟨ret_bool HR.out, rfl⟩
end Go.Proofs.Ytllfmjnniagjfaa
