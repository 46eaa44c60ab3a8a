/-
  The shoalest sounding: contracts of impl.shoalestWhere (with the closures of ShoalestIn and SupportedDepth), ShoalestIn and SupportedDepth of both sides over this translation. Conditions: stated at each theorem.
-/
import Derived.Test.YtdmnkmdlochogaaQf
import Derived.Test.YtdmnkmdlochogaaQl
import Derived.Test.YtdmnkmdlochogaaBs
namespace Go.Proofs.Ytdmnkmdlochogaa
open Go.RowKit
set_option linter.unusedVariables false

def zS : SD := ⟨0, 0, 0, 0, 0⟩
/-- The shoalest one so far, or none. -/
def shU (L : List SD) (P : SD → Bool) (k : Nat) : SD := if shK L P k < 0 then zS else sdAt L (shK L P k).toNat
theorem shU_none {L : List SD} {P : SD → Bool} {k : Nat} (h : shK L P k < 0) : shU L P k = zS := by unfold shU; rw [if_pos h]
theorem shU_some {L : List SD} {P : SD → Bool} {k : Nat} (h : ¬ shK L P k < 0) : ∃ j : Nat, j < k ∧ shK L P k = j ∧ shU L P k = sdAt L j := by
  obtain ⟨h1, h2⟩ := shK_bd L P k
  obtain ⟨j, hj⟩ : ∃ j : Nat, shK L P k = j := ⟨(shK L P k).toNat, by omega⟩
  refine ⟨j, by omega, hj, ?_⟩
  unfold shU
  rw [if_neg h, hj]
  rfl
theorem sh_skip {L : List SD} {P : SD → Bool} {k : Nat} (h : P (sdAt L k) = false) : shK L P (k + 1) = shK L P k ∧ shU L P (k + 1) = shU L P k := by
  have e : shK L P (k + 1) = shK L P k := by rw [shK, h]; rfl
  exact ⟨e, by unfold shU; rw [e]⟩
theorem sh_first {L : List SD} {P : SD → Bool} {k : Nat} (h : P (sdAt L k) = true) (hn : shK L P k < 0) : shK L P (k + 1) = k ∧ shU L P (k + 1) = sdAt L k := by
  have e : shK L P (k + 1) = k := by rw [shK, h, decide_eq_true hn]; rfl
  exact ⟨e, by unfold shU; rw [e, if_neg (by omega)]; rfl⟩
theorem sh_less {L : List SD} {P : SD → Bool} {k : Nat} (h : P (sdAt L k) = true) (hn : ¬ shK L P k < 0) (hl : lowS (sdAt L k) < lowS (shU L P k)) : shK L P (k + 1) = k ∧ shU L P (k + 1) = sdAt L k := by
  obtain ⟨j, hj, e1, e2⟩ := shU_some hn
  have e : shK L P (k + 1) = k := by
    rw [e2] at hl
    rw [shK, h, decide_eq_false hn, e1, Int.toNat_natCast, decide_eq_true hl]
    rfl
  exact ⟨e, by unfold shU; rw [e, if_neg (by omega)]; rfl⟩
theorem sh_more {L : List SD} {P : SD → Bool} {k : Nat} (hn : ¬ shK L P k < 0) (hl : ¬ lowS (sdAt L k) < lowS (shU L P k)) : shK L P (k + 1) = shK L P k ∧ shU L P (k + 1) = shU L P k := by
  obtain ⟨j, hj, e1, e2⟩ := shU_some hn
  have e : shK L P (k + 1) = shK L P k := by
    rw [e2] at hl
    rw [shK, decide_eq_false hn, e1, Int.toNat_natCast, decide_eq_false hl]
    simp
  exact ⟨e, by unfold shU; rw [e]⟩
theorem sm_zero : SmS ⟨0, 0, 0, 0, 0⟩ := ⟨⟨by decide, by decide⟩, ⟨by decide, by decide⟩⟩
/-- The supported depth is that of the shoalest one. -/
theorem su_sh (L : List SD) (P : SD → Bool) (k : Nat) : suK L P k = (lowS (shU L P k), decide (0 ≤ shK L P k)) := by
  induction k with
  | zero => rfl
  | succ k ih =>
    rcases hp : P (sdAt L k) with _ | _
    · obtain ⟨e1, e2⟩ := sh_skip hp
      rw [suK, hp, e1, e2, ih]
      rfl
    by_cases hn : shK L P k < 0
    · obtain ⟨e1, e2⟩ := sh_first hp hn
      rw [suK, hp, ih, e1, e2, decide_eq_false (show ¬ 0 ≤ shK L P k by omega), decide_eq_true (show (0 : Int) ≤ k by omega)]
      rfl
    by_cases hl : lowS (sdAt L k) < lowS (shU L P k)
    · obtain ⟨e1, e2⟩ := sh_less hp hn hl
      rw [suK, hp, ih, e1, e2, decide_eq_true hl, decide_eq_true (show (0 : Int) ≤ k by omega)]
      simp
    · obtain ⟨e1, e2⟩ := sh_more (P := P) hn hl
      rw [suK, hp, ih, e1, e2, decide_eq_false hl, decide_eq_true (show 0 ≤ shK L P k by omega)]
      rfl
/-! ### A sounding in a block of its own -/
theorem has_sound {w : World} {g : Nat} {u : SD} (h : Has w g [.int .i64 u.id, .int .i64 u.x, .int .i64 u.y, .int .i64 u.dep, .int .i64 u.dbt]) (v : SD) : Has (setL w g 0 [.int .i64 v.id, .int .i64 v.x, .int .i64 v.y, .int .i64 v.dep, .int .i64 v.dbt]) g [.int .i64 v.id, .int .i64 v.x, .int .i64 v.y, .int .i64 v.dep, .int .i64 v.dbt] := ((((h.set 0 (.int .i64 v.id)).set 1 (.int .i64 v.x)).set 2 (.int .i64 v.y)).set 3 (.int .i64 v.dep)).set 4 (.int .i64 v.dbt)
theorem has_other {w : World} {g g' : Nat} {cs : List Value} (h : Has w g cs) (hne : g' ≠ g) (o : Nat) (vs : List Value) : Has (setL w g' o vs) g cs := by
  induction vs generalizing w o with
  | nil => exact h
  | cons v vs ih => exact ih (h.far (p := ⟨g', o, none⟩) hne v) (o + 1)
def WhPost (L : List SD) (P : SD → Bool) (w : World) (e : Ending) (w' : World) : Prop :=
  ∃ u : SD, Hid (u = shU L P L.length) ∧ e = .returned (.tuple #[.agg #[.int .i64 u.id, .int .i64 u.x, .int .i64 u.y, .int .i64 u.dep, .int .i64 u.dbt], .bool (decide (0 ≤ shK L P L.length))]) ∧ Below w.heap.size w w'
set_option maxRecDepth 100000 in
set_option maxHeartbeats 6400000 in
theorem where_in (P : SD → Bool) (q1 : Value) (A : Option Addr) (n c : Nat) (L : List SD) (w : World) (hs : Sds w w.heap.size A n L) (hg : Good8 L)
    (hf : ∀ (W : World) (v : SD), Below w.heap.size w W → sdB v = true → Calls Try.prog 137 #[.agg #[.int .i64 v.id, .int .i64 v.x, .int .i64 v.y, .int .i64 v.dep, .int .i64 v.dbt], q1] W fun e w' => e = .returned (.bool (P v)) ∧ Below W.heap.size W w') :
    Calls Try.prog 126 #[.slice A n c, .func (.func 137) #[] #[q1]] w (WhPost L P w) := by
  obtain rfl := hs.1
  have HS := Lib.hid hs
  have HG := Lib.hid hg
  have HF := Lib.hid hf
  have h12 := hg.max
  clear hs hg hf
  have HX := Lib.hid (box3 (cs := #[.int .i64 0, .int .i64 0, .int .i64 0, .int .i64 0, .int .i64 0]) (ds := #[.int .i64 0, .int .i64 0, .int .i64 0, .int .i64 0, .int .i64 0]) (es := #[.int .i64 0, .int .i64 0, .int .i64 0, .int .i64 0, .int .i64 0]) (T := 75) (T' := 75) (T'' := 75) (w := w) (Below.refl _ _))
  have HZ : Hid (zS = shU L P 0) := Lib.hid rfl
  go_enter Try.func126, Try.ntmps126
  go_wp2_with fail
  go_loopw [14] (fun i wr => ∃ (k : Nat) (u : SD), k ≤ L.length ∧ i = .int .i64 k ∧ Hid (u = shU L P k) ∧ Hid (Has wr w.heap.size [.int .i64 0, .int .i64 0, .int .i64 0, .int .i64 0, .int .i64 0]) ∧ Hid (Has wr (w.heap.size + 1) [.int .i64 0, .int .i64 0, .int .i64 0, .int .i64 0, .int .i64 0]) ∧ Hid (Has wr (w.heap.size + 1 + 1) [.int .i64 u.id, .int .i64 u.x, .int .i64 u.y, .int .i64 u.dep, .int .i64 u.dbt]) ∧ Hid (Below w.heap.size w wr)) (fun i _ => L.length - (intOf i).toNat)
  case atStart => exact ⟨0, zS, Nat.zero_le _, rfl, HZ, Lib.hid HX.out.2.1, Lib.hid HX.out.2.2.1, Lib.hid HX.out.2.2.2, Lib.hid HX.out.1⟩
  case round =>
    obtain ⟨k, u, hk, rfl, hu, hR, hN, hM, hB⟩ := hrel
    have z0 := hN.out.at_ 0 _ rfl
    have z1 := hN.out.at_ 1 _ rfl
    have z2 := hN.out.at_ 2 _ rfl
    have z3 := hN.out.at_ 3 _ rfl
    have z4 := hN.out.at_ 4 _ rfl
    by_cases hlt : k < L.length
    · obtain ⟨b, o, v, rfl, hbl, hL, c0, c1, c2, c3, c4⟩ := (sds_at HS.out hB.out).2 k hlt
      have HK := Lib.hid (sdAt_at hL)
      have hv1 := HG.out.one k hlt
      rw [sdAt_at hL] at hv1
      have HG1 := hv1
      have HV := Lib.hid (sm_of hv1)
      clear hL hv1
      obtain ⟨W0, hW0⟩ : ∃ W0, W0 = wr.alloc (.cells #[.int .i64 v.id, .int .i64 v.x, .int .i64 v.y, .int .i64 v.dep, .int .i64 v.dbt] 75) := ⟨_, rfl⟩
      have HW : Hid (Below wr.heap.size wr W0 ∧ Has W0 wr.heap.size [.int .i64 v.id, .int .i64 v.x, .int .i64 v.y, .int .i64 v.dep, .int .i64 v.dbt]) := by rw [hW0]; exact box1 (Below.refl _ _)
      have HE := Lib.hid hW0
      clear hW0 z0 z1 z2 z3 z4
      go_wp2_with fail
      rw [← HE.out]
      clear c0 c1 c2 c3 c4
      have HW1 := Lib.hid HW.out.2
      have HB0 := Lib.hid (bthen hB.out HW.out.1 hB.out.size)
      have HM0 := Lib.hid (hM.out.next HW.out.1)
      have HN0 := Lib.hid (hN.out.next HW.out.1)
      have HR0 := Lib.hid (hR.out.next HW.out.1)
      have a0 := HW1.out.at_ 0 _ rfl
      have a1 := HW1.out.at_ 1 _ rfl
      have a2 := HW1.out.at_ 2 _ rfl
      have a3 := HW1.out.at_ 3 _ rfl
      have a4 := HW1.out.at_ 4 _ rfl
      have z0 := HN0.out.at_ 0 _ rfl
      have z1 := HN0.out.at_ 1 _ rfl
      have z2 := HN0.out.at_ 2 _ rfl
      have z3 := HN0.out.at_ 3 _ rfl
      have z4 := HN0.out.at_ 4 _ rfl
      by_cases hn : shK L P k < 0
      · obtain rfl : u = zS := by rw [hu.out]; exact shU_none hn
        dsimp only [zS] at HM0 hM
        have HU : Hid (SmS ⟨0, 0, 0, 0, 0⟩) := Lib.hid sm_zero
        have b0 := HM0.out.at_ 0 _ rfl
        have b1 := HM0.out.at_ 1 _ rfl
        have b2 := HM0.out.at_ 2 _ rfl
        have b3 := HM0.out.at_ 3 _ rfl
        have b4 := HM0.out.at_ 4 _ rfl
        rcases hp : P v with _ | _
        · have HP := Lib.hid hp
          have HNU : Hid (zS = shU L P (k + 1)) := by unfold Hid; rw [(sh_skip (by rw [HK.out]; exact hp)).2]; exact (shU_none hn).symm
          clear hp hn
          have lc0 := lcell (a0)
          have lc1 := lcell (a1)
          have lc2 := lcell (a2)
          have lc3 := lcell (a3)
          have lc4 := lcell (a4)
          have lc5 := lcell (b0)
          have lc6 := lcell (b1)
          have lc7 := lcell (b2)
          have lc8 := lcell (b3)
          have lc9 := lcell (b4)
          have lc10 := lcell (z0)
          have lc11 := lcell (z1)
          have lc12 := lcell (z2)
          have lc13 := lcell (z3)
          have lc14 := lcell (z4)
          refine region_later (W := W0) (by kernel_rfl) (by kernel_rfl) (Below.refl _ _) ?_
          repeat (go_big_quiet_step (((first | (go_at_call 137; exact later_call ((HF.out _ v (bthen HB0.out (Later.below _) HB0.out.size) HG1).mono fun e w' h => ⟨by rw [h.1, HP.out], h.2⟩)) | (go_at_call 129; exact later_call (lowS_impl v HV.out _)) | (go_at_call 129; exact later_call (lowS_impl _ HU.out _))))))
          refine wpQuiet_nil ?_
          intro W1 hW1
          have HL : Hid (Below W0.heap.size W0 W1) := by obtain ⟨x, rfl⟩ := hW1; exact Lib.hid x.below
          clear hW1 lc0 lc1 lc2 lc3 lc4 lc5 lc6 lc7 lc8 lc9 lc10 lc11 lc12 lc13 lc14
          have HB1 := Lib.hid (bthen HB0.out HL.out HB0.out.size)
          have HM1 := Lib.hid (HM0.out.next HL.out)
          have HN1 := Lib.hid (HN0.out.next HL.out)
          have HR1 := Lib.hid (HR0.out.next HL.out)
          have HS1 := Lib.hid (HW1.out.next HL.out)
          clear a0 a1 a2 a3 a4 b0 b1 b2 b3 b4 z0 z1 z2 z3 z4
          go_wp2_with fail
          go_roundw
          case rel => exact ⟨k + 1, zS, by omega, by go_num, HNU, HR1, HN1, HM1, HB1⟩
          case measure => simp [intOf]; omega
        · have HP := Lib.hid hp
          have HNU : Hid (v = shU L P (k + 1)) := by unfold Hid; rw [(sh_first (by rw [HK.out]; exact hp) hn).2]; exact HK.out.symm
          clear hp hn
          have lc0 := lcell (a0)
          have lc1 := lcell (a1)
          have lc2 := lcell (a2)
          have lc3 := lcell (a3)
          have lc4 := lcell (a4)
          have lc5 := lcell (b0)
          have lc6 := lcell (b1)
          have lc7 := lcell (b2)
          have lc8 := lcell (b3)
          have lc9 := lcell (b4)
          have lc10 := lcell (z0)
          have lc11 := lcell (z1)
          have lc12 := lcell (z2)
          have lc13 := lcell (z3)
          have lc14 := lcell (z4)
          refine region_later (W := W0) (by kernel_rfl) (by kernel_rfl) (Below.refl _ _) ?_
          repeat (go_big_quiet_step (((first | (go_at_call 137; exact later_call ((HF.out _ v (bthen HB0.out (Later.below _) HB0.out.size) HG1).mono fun e w' h => ⟨by rw [h.1, HP.out], h.2⟩)) | (go_at_call 129; exact later_call (lowS_impl v HV.out _)) | (go_at_call 129; exact later_call (lowS_impl _ HU.out _))))))
          refine wpQuiet_nil ?_
          intro W1 hW1
          have HL : Hid (Below W0.heap.size W0 W1) := by obtain ⟨x, rfl⟩ := hW1; exact Lib.hid x.below
          clear hW1 lc0 lc1 lc2 lc3 lc4 lc5 lc6 lc7 lc8 lc9 lc10 lc11 lc12 lc13 lc14
          have HB1 := Lib.hid (bthen HB0.out HL.out HB0.out.size)
          have HM1 := Lib.hid (HM0.out.next HL.out)
          have HN1 := Lib.hid (HN0.out.next HL.out)
          have HR1 := Lib.hid (HR0.out.next HL.out)
          have HS1 := Lib.hid (HW1.out.next HL.out)
          clear a0 a1 a2 a3 a4 b0 b1 b2 b3 b4 z0 z1 z2 z3 z4
          have a0 := HS1.out.at_ 0 _ rfl
          have a1 := HS1.out.at_ 1 _ rfl
          have a2 := HS1.out.at_ 2 _ rfl
          have a3 := HS1.out.at_ 3 _ rfl
          have a4 := HS1.out.at_ 4 _ rfl
          have b0 := HM1.out.at_ 0 _ rfl
          have b1 := HM1.out.at_ 1 _ rfl
          have b2 := HM1.out.at_ 2 _ rfl
          have b3 := HM1.out.at_ 3 _ rfl
          have b4 := HM1.out.at_ 4 _ rfl
          have f0 := HM1.out.free 0
          have f1 := HM1.out.free 1
          have f2 := HM1.out.free 2
          have f3 := HM1.out.free 3
          have f4 := HM1.out.free 4
          have HM2 := Lib.hid (has_sound (u := ⟨0, 0, 0, 0, 0⟩) HM1.out v)
          have HN2 := Lib.hid (has_other HN1.out (show w.heap.size + 1 + 1 ≠ w.heap.size + 1 by omega) 0 [.int .i64 v.id, .int .i64 v.x, .int .i64 v.y, .int .i64 v.dep, .int .i64 v.dbt])
          have HR2 := Lib.hid (has_other HR1.out (show w.heap.size + 1 + 1 ≠ w.heap.size by omega) 0 [.int .i64 v.id, .int .i64 v.x, .int .i64 v.y, .int .i64 v.dep, .int .i64 v.dbt])
          have HB2 := Lib.hid (setL_below [.int .i64 v.id, .int .i64 v.x, .int .i64 v.y, .int .i64 v.dep, .int .i64 v.dbt] HB1.out (show w.heap.size ≤ w.heap.size + 1 + 1 by omega) 0)
          go_wp2_with fail
          go_roundw
          case rel => exact ⟨k + 1, v, by omega, by go_num, HNU, HR2, HN2, HM2, HB2⟩
          case measure => simp [intOf]; omega
      · obtain ⟨j, hj, _, he⟩ := shU_some hn
        rw [he] at hu
        have hu1 := HG.out.one j (by omega)
        rw [← hu.out] at hu1
        have HU := Lib.hid (sm_of hu1)
        have hd0 : (u.id == 0) = false := beq_eq_false_iff_ne.2 (by have := (sdB_parts hu1).1; omega)
        have HUE : Hid (u = shU L P k) := Lib.hid (hu.out.trans he.symm)
        have b0 := HM0.out.at_ 0 _ rfl
        have b1 := HM0.out.at_ 1 _ rfl
        have b2 := HM0.out.at_ 2 _ rfl
        have b3 := HM0.out.at_ 3 _ rfl
        have b4 := HM0.out.at_ 4 _ rfl
        clear hu hu1 he hj
        rcases hp : P v with _ | _
        · have HP := Lib.hid hp
          have HNU : Hid (u = shU L P (k + 1)) := by unfold Hid; rw [(sh_skip (by rw [HK.out]; exact hp)).2]; exact HUE.out
          clear hp hn
          have lc0 := lcell (a0)
          have lc1 := lcell (a1)
          have lc2 := lcell (a2)
          have lc3 := lcell (a3)
          have lc4 := lcell (a4)
          have lc5 := lcell (b0)
          have lc6 := lcell (b1)
          have lc7 := lcell (b2)
          have lc8 := lcell (b3)
          have lc9 := lcell (b4)
          have lc10 := lcell (z0)
          have lc11 := lcell (z1)
          have lc12 := lcell (z2)
          have lc13 := lcell (z3)
          have lc14 := lcell (z4)
          refine region_later (W := W0) (by kernel_rfl) (by kernel_rfl) (Below.refl _ _) ?_
          repeat (go_big_quiet_step (((first | (go_at_call 137; exact later_call ((HF.out _ v (bthen HB0.out (Later.below _) HB0.out.size) HG1).mono fun e w' h => ⟨by rw [h.1, HP.out], h.2⟩)) | (go_at_call 129; exact later_call (lowS_impl v HV.out _)) | (go_at_call 129; exact later_call (lowS_impl _ HU.out _))))))
          refine wpQuiet_nil ?_
          intro W1 hW1
          have HL : Hid (Below W0.heap.size W0 W1) := by obtain ⟨x, rfl⟩ := hW1; exact Lib.hid x.below
          clear hW1 lc0 lc1 lc2 lc3 lc4 lc5 lc6 lc7 lc8 lc9 lc10 lc11 lc12 lc13 lc14
          have HB1 := Lib.hid (bthen HB0.out HL.out HB0.out.size)
          have HM1 := Lib.hid (HM0.out.next HL.out)
          have HN1 := Lib.hid (HN0.out.next HL.out)
          have HR1 := Lib.hid (HR0.out.next HL.out)
          have HS1 := Lib.hid (HW1.out.next HL.out)
          clear a0 a1 a2 a3 a4 b0 b1 b2 b3 b4 z0 z1 z2 z3 z4
          go_wp2_with fail
          go_roundw
          case rel => exact ⟨k + 1, u, by omega, by go_num, HNU, HR1, HN1, HM1, HB1⟩
          case measure => simp [intOf]; omega
        by_cases hl : lowS v < lowS u
        · have HP := Lib.hid hp
          have HNU : Hid (v = shU L P (k + 1)) := by unfold Hid; rw [(sh_less (by rw [HK.out]; exact hp) hn (by rw [HK.out, ← HUE.out]; exact hl)).2]; exact HK.out.symm
          have hd : decide (lowS v < lowS u) = true := decide_eq_true hl
          clear hp hn hl
          have lc0 := lcell (a0)
          have lc1 := lcell (a1)
          have lc2 := lcell (a2)
          have lc3 := lcell (a3)
          have lc4 := lcell (a4)
          have lc5 := lcell (b0)
          have lc6 := lcell (b1)
          have lc7 := lcell (b2)
          have lc8 := lcell (b3)
          have lc9 := lcell (b4)
          have lc10 := lcell (z0)
          have lc11 := lcell (z1)
          have lc12 := lcell (z2)
          have lc13 := lcell (z3)
          have lc14 := lcell (z4)
          refine region_later (W := W0) (by kernel_rfl) (by kernel_rfl) (Below.refl _ _) ?_
          repeat (go_big_quiet_step (((first | (go_at_call 137; exact later_call ((HF.out _ v (bthen HB0.out (Later.below _) HB0.out.size) HG1).mono fun e w' h => ⟨by rw [h.1, HP.out], h.2⟩)) | (go_at_call 129; exact later_call (lowS_impl v HV.out _)) | (go_at_call 129; exact later_call (lowS_impl _ HU.out _))))))
          refine wpQuiet_nil ?_
          intro W1 hW1
          have HL : Hid (Below W0.heap.size W0 W1) := by obtain ⟨x, rfl⟩ := hW1; exact Lib.hid x.below
          clear hW1 lc0 lc1 lc2 lc3 lc4 lc5 lc6 lc7 lc8 lc9 lc10 lc11 lc12 lc13 lc14
          have HB1 := Lib.hid (bthen HB0.out HL.out HB0.out.size)
          have HM1 := Lib.hid (HM0.out.next HL.out)
          have HN1 := Lib.hid (HN0.out.next HL.out)
          have HR1 := Lib.hid (HR0.out.next HL.out)
          have HS1 := Lib.hid (HW1.out.next HL.out)
          clear a0 a1 a2 a3 a4 b0 b1 b2 b3 b4 z0 z1 z2 z3 z4
          have a0 := HS1.out.at_ 0 _ rfl
          have a1 := HS1.out.at_ 1 _ rfl
          have a2 := HS1.out.at_ 2 _ rfl
          have a3 := HS1.out.at_ 3 _ rfl
          have a4 := HS1.out.at_ 4 _ rfl
          have b0 := HM1.out.at_ 0 _ rfl
          have b1 := HM1.out.at_ 1 _ rfl
          have b2 := HM1.out.at_ 2 _ rfl
          have b3 := HM1.out.at_ 3 _ rfl
          have b4 := HM1.out.at_ 4 _ rfl
          have f0 := HM1.out.free 0
          have f1 := HM1.out.free 1
          have f2 := HM1.out.free 2
          have f3 := HM1.out.free 3
          have f4 := HM1.out.free 4
          have HM2 := Lib.hid (has_sound HM1.out v)
          have HN2 := Lib.hid (has_other HN1.out (show w.heap.size + 1 + 1 ≠ w.heap.size + 1 by omega) 0 [.int .i64 v.id, .int .i64 v.x, .int .i64 v.y, .int .i64 v.dep, .int .i64 v.dbt])
          have HR2 := Lib.hid (has_other HR1.out (show w.heap.size + 1 + 1 ≠ w.heap.size by omega) 0 [.int .i64 v.id, .int .i64 v.x, .int .i64 v.y, .int .i64 v.dep, .int .i64 v.dbt])
          have HB2 := Lib.hid (setL_below [.int .i64 v.id, .int .i64 v.x, .int .i64 v.y, .int .i64 v.dep, .int .i64 v.dbt] HB1.out (show w.heap.size ≤ w.heap.size + 1 + 1 by omega) 0)
          go_wp2_with fail
          go_roundw
          case rel => exact ⟨k + 1, v, by omega, by go_num, HNU, HR2, HN2, HM2, HB2⟩
          case measure => simp [intOf]; omega
        · have HP := Lib.hid hp
          have HNU : Hid (u = shU L P (k + 1)) := by unfold Hid; rw [(sh_more hn (by rw [HK.out, ← HUE.out]; exact hl)).2]; exact HUE.out
          have hd : decide (lowS v < lowS u) = false := decide_eq_false hl
          clear hp hn hl
          have lc0 := lcell (a0)
          have lc1 := lcell (a1)
          have lc2 := lcell (a2)
          have lc3 := lcell (a3)
          have lc4 := lcell (a4)
          have lc5 := lcell (b0)
          have lc6 := lcell (b1)
          have lc7 := lcell (b2)
          have lc8 := lcell (b3)
          have lc9 := lcell (b4)
          have lc10 := lcell (z0)
          have lc11 := lcell (z1)
          have lc12 := lcell (z2)
          have lc13 := lcell (z3)
          have lc14 := lcell (z4)
          refine region_later (W := W0) (by kernel_rfl) (by kernel_rfl) (Below.refl _ _) ?_
          repeat (go_big_quiet_step (((first | (go_at_call 137; exact later_call ((HF.out _ v (bthen HB0.out (Later.below _) HB0.out.size) HG1).mono fun e w' h => ⟨by rw [h.1, HP.out], h.2⟩)) | (go_at_call 129; exact later_call (lowS_impl v HV.out _)) | (go_at_call 129; exact later_call (lowS_impl _ HU.out _))))))
          refine wpQuiet_nil ?_
          intro W1 hW1
          have HL : Hid (Below W0.heap.size W0 W1) := by obtain ⟨x, rfl⟩ := hW1; exact Lib.hid x.below
          clear hW1 lc0 lc1 lc2 lc3 lc4 lc5 lc6 lc7 lc8 lc9 lc10 lc11 lc12 lc13 lc14
          have HB1 := Lib.hid (bthen HB0.out HL.out HB0.out.size)
          have HM1 := Lib.hid (HM0.out.next HL.out)
          have HN1 := Lib.hid (HN0.out.next HL.out)
          have HR1 := Lib.hid (HR0.out.next HL.out)
          have HS1 := Lib.hid (HW1.out.next HL.out)
          clear a0 a1 a2 a3 a4 b0 b1 b2 b3 b4 z0 z1 z2 z3 z4
          go_wp2_with fail
          go_roundw
          case rel => exact ⟨k + 1, u, by omega, by go_num, HNU, HR1, HN1, HM1, HB1⟩
          case measure => simp [intOf]; omega
    · obtain rfl : k = L.length := by omega
      obtain ⟨W0, rfl⟩ : ∃ W : World, W = wr := ⟨_, rfl⟩
      by_cases hn : shK L P L.length < 0
      · have HQ : Hid (decide (0 ≤ shK L P L.length) = false) := Lib.hid (decide_eq_false (by omega))
        have HUZ : Hid (u = zS) := by unfold Hid; rw [hu.out]; exact shU_none hn
        obtain rfl := HUZ.out
        clear HUZ
        dsimp only [zS] at hM
        have b0 := hM.out.at_ 0 _ rfl
        have b1 := hM.out.at_ 1 _ rfl
        have b2 := hM.out.at_ 2 _ rfl
        have b3 := hM.out.at_ 3 _ rfl
        have b4 := hM.out.at_ 4 _ rfl
        have r0 := hR.out.at_ 0 _ rfl
        have r1 := hR.out.at_ 1 _ rfl
        have r2 := hR.out.at_ 2 _ rfl
        have r3 := hR.out.at_ 3 _ rfl
        have r4 := hR.out.at_ 4 _ rfl
        have f0 := hR.out.free 0
        have f1 := hR.out.free 1
        have f2 := hR.out.free 2
        have f3 := hR.out.free 3
        have f4 := hR.out.free 4
        clear hn
        have HC := Lib.hid (has_sound (u := ⟨0, 0, 0, 0, 0⟩) hR.out zS)
        have HB2 := Lib.hid (setL_below [.int .i64 0, .int .i64 0, .int .i64 0, .int .i64 0, .int .i64 0] hB.out (show w.heap.size ≤ w.heap.size by omega) 0)
        go_wp2_with fail
        go_region
        go_wp2_with fail
        refine bodyPost_ret (v := .tuple #[.agg #[.int .i64 0, .int .i64 0, .int .i64 0, .int .i64 0, .int .i64 0], .bool false]) (by simp [results, Try.results126, go_sem, r0, r1, r2, r3, r4]) rfl ⟨zS, hu, by rw [HQ.out]; rfl, bdrewN HB2.out 1⟩
      · obtain ⟨j, hj, _, he⟩ := shU_some hn
        have hu1 := HG.out.one j hj
        rw [← he, ← hu.out] at hu1
        have hd0 : (u.id == 0) = false := beq_eq_false_iff_ne.2 (by have := (sdB_parts hu1).1; omega)
        have HQ : Hid (decide (0 ≤ shK L P L.length) = true) := Lib.hid (decide_eq_true (by omega))
        have b0 := hM.out.at_ 0 _ rfl
        have b1 := hM.out.at_ 1 _ rfl
        have b2 := hM.out.at_ 2 _ rfl
        have b3 := hM.out.at_ 3 _ rfl
        have b4 := hM.out.at_ 4 _ rfl
        clear hu1 he hj
        have r0 := hR.out.at_ 0 _ rfl
        have r1 := hR.out.at_ 1 _ rfl
        have r2 := hR.out.at_ 2 _ rfl
        have r3 := hR.out.at_ 3 _ rfl
        have r4 := hR.out.at_ 4 _ rfl
        have f0 := hR.out.free 0
        have f1 := hR.out.free 1
        have f2 := hR.out.free 2
        have f3 := hR.out.free 3
        have f4 := hR.out.free 4
        clear hn
        have HC := Lib.hid (has_sound (u := ⟨0, 0, 0, 0, 0⟩) hR.out u)
        have HB2 := Lib.hid (setL_below [.int .i64 u.id, .int .i64 u.x, .int .i64 u.y, .int .i64 u.dep, .int .i64 u.dbt] hB.out (show w.heap.size ≤ w.heap.size by omega) 0)
        go_wp2_with fail
        go_region
        go_wp2_with fail
        refine bodyPost_ret (v := .tuple #[.agg #[.int .i64 u.id, .int .i64 u.x, .int .i64 u.y, .int .i64 u.dep, .int .i64 u.dbt], .bool true]) (by simp [results, Try.results126, go_sem, r0, r1, r2, r3, r4]) rfl ⟨u, hu, by rw [HQ.out], bdrewN HB2.out 1⟩
set_option maxRecDepth 100000 in
set_option maxHeartbeats 6400000 in
theorem where_near (P : SD → Bool) (q1 q2 : Value) (A : Option Addr) (n c : Nat) (L : List SD) (w : World) (hs : Sds w w.heap.size A n L) (hg : Good8 L)
    (hf : ∀ (W : World) (v : SD), Below w.heap.size w W → sdB v = true → Calls Try.prog 127 #[.agg #[.int .i64 v.id, .int .i64 v.x, .int .i64 v.y, .int .i64 v.dep, .int .i64 v.dbt], q1, q2] W fun e w' => e = .returned (.bool (P v)) ∧ Below W.heap.size W w') :
    Calls Try.prog 126 #[.slice A n c, .func (.func 127) #[] #[q1, q2]] w (WhPost L P w) := by
  obtain rfl := hs.1
  have HS := Lib.hid hs
  have HG := Lib.hid hg
  have HF := Lib.hid hf
  have h12 := hg.max
  clear hs hg hf
  have HX := Lib.hid (box3 (cs := #[.int .i64 0, .int .i64 0, .int .i64 0, .int .i64 0, .int .i64 0]) (ds := #[.int .i64 0, .int .i64 0, .int .i64 0, .int .i64 0, .int .i64 0]) (es := #[.int .i64 0, .int .i64 0, .int .i64 0, .int .i64 0, .int .i64 0]) (T := 75) (T' := 75) (T'' := 75) (w := w) (Below.refl _ _))
  have HZ : Hid (zS = shU L P 0) := Lib.hid rfl
  go_enter Try.func126, Try.ntmps126
  go_wp2_with fail
  go_loopw [14] (fun i wr => ∃ (k : Nat) (u : SD), k ≤ L.length ∧ i = .int .i64 k ∧ Hid (u = shU L P k) ∧ Hid (Has wr w.heap.size [.int .i64 0, .int .i64 0, .int .i64 0, .int .i64 0, .int .i64 0]) ∧ Hid (Has wr (w.heap.size + 1) [.int .i64 0, .int .i64 0, .int .i64 0, .int .i64 0, .int .i64 0]) ∧ Hid (Has wr (w.heap.size + 1 + 1) [.int .i64 u.id, .int .i64 u.x, .int .i64 u.y, .int .i64 u.dep, .int .i64 u.dbt]) ∧ Hid (Below w.heap.size w wr)) (fun i _ => L.length - (intOf i).toNat)
  case atStart => exact ⟨0, zS, Nat.zero_le _, rfl, HZ, Lib.hid HX.out.2.1, Lib.hid HX.out.2.2.1, Lib.hid HX.out.2.2.2, Lib.hid HX.out.1⟩
  case round =>
    obtain ⟨k, u, hk, rfl, hu, hR, hN, hM, hB⟩ := hrel
    have z0 := hN.out.at_ 0 _ rfl
    have z1 := hN.out.at_ 1 _ rfl
    have z2 := hN.out.at_ 2 _ rfl
    have z3 := hN.out.at_ 3 _ rfl
    have z4 := hN.out.at_ 4 _ rfl
    by_cases hlt : k < L.length
    · obtain ⟨b, o, v, rfl, hbl, hL, c0, c1, c2, c3, c4⟩ := (sds_at HS.out hB.out).2 k hlt
      have HK := Lib.hid (sdAt_at hL)
      have hv1 := HG.out.one k hlt
      rw [sdAt_at hL] at hv1
      have HG1 := hv1
      have HV := Lib.hid (sm_of hv1)
      clear hL hv1
      obtain ⟨W0, hW0⟩ : ∃ W0, W0 = wr.alloc (.cells #[.int .i64 v.id, .int .i64 v.x, .int .i64 v.y, .int .i64 v.dep, .int .i64 v.dbt] 75) := ⟨_, rfl⟩
      have HW : Hid (Below wr.heap.size wr W0 ∧ Has W0 wr.heap.size [.int .i64 v.id, .int .i64 v.x, .int .i64 v.y, .int .i64 v.dep, .int .i64 v.dbt]) := by rw [hW0]; exact box1 (Below.refl _ _)
      have HE := Lib.hid hW0
      clear hW0 z0 z1 z2 z3 z4
      go_wp2_with fail
      rw [← HE.out]
      clear c0 c1 c2 c3 c4
      have HW1 := Lib.hid HW.out.2
      have HB0 := Lib.hid (bthen hB.out HW.out.1 hB.out.size)
      have HM0 := Lib.hid (hM.out.next HW.out.1)
      have HN0 := Lib.hid (hN.out.next HW.out.1)
      have HR0 := Lib.hid (hR.out.next HW.out.1)
      have a0 := HW1.out.at_ 0 _ rfl
      have a1 := HW1.out.at_ 1 _ rfl
      have a2 := HW1.out.at_ 2 _ rfl
      have a3 := HW1.out.at_ 3 _ rfl
      have a4 := HW1.out.at_ 4 _ rfl
      have z0 := HN0.out.at_ 0 _ rfl
      have z1 := HN0.out.at_ 1 _ rfl
      have z2 := HN0.out.at_ 2 _ rfl
      have z3 := HN0.out.at_ 3 _ rfl
      have z4 := HN0.out.at_ 4 _ rfl
      by_cases hn : shK L P k < 0
      · obtain rfl : u = zS := by rw [hu.out]; exact shU_none hn
        dsimp only [zS] at HM0 hM
        have HU : Hid (SmS ⟨0, 0, 0, 0, 0⟩) := Lib.hid sm_zero
        have b0 := HM0.out.at_ 0 _ rfl
        have b1 := HM0.out.at_ 1 _ rfl
        have b2 := HM0.out.at_ 2 _ rfl
        have b3 := HM0.out.at_ 3 _ rfl
        have b4 := HM0.out.at_ 4 _ rfl
        rcases hp : P v with _ | _
        · have HP := Lib.hid hp
          have HNU : Hid (zS = shU L P (k + 1)) := by unfold Hid; rw [(sh_skip (by rw [HK.out]; exact hp)).2]; exact (shU_none hn).symm
          clear hp hn
          have lc0 := lcell (a0)
          have lc1 := lcell (a1)
          have lc2 := lcell (a2)
          have lc3 := lcell (a3)
          have lc4 := lcell (a4)
          have lc5 := lcell (b0)
          have lc6 := lcell (b1)
          have lc7 := lcell (b2)
          have lc8 := lcell (b3)
          have lc9 := lcell (b4)
          have lc10 := lcell (z0)
          have lc11 := lcell (z1)
          have lc12 := lcell (z2)
          have lc13 := lcell (z3)
          have lc14 := lcell (z4)
          refine region_later (W := W0) (by kernel_rfl) (by kernel_rfl) (Below.refl _ _) ?_
          repeat (go_big_quiet_step (((first | (go_at_call 127; exact later_call ((HF.out _ v (bthen HB0.out (Later.below _) HB0.out.size) HG1).mono fun e w' h => ⟨by rw [h.1, HP.out], h.2⟩)) | (go_at_call 129; exact later_call (lowS_impl v HV.out _)) | (go_at_call 129; exact later_call (lowS_impl _ HU.out _))))))
          refine wpQuiet_nil ?_
          intro W1 hW1
          have HL : Hid (Below W0.heap.size W0 W1) := by obtain ⟨x, rfl⟩ := hW1; exact Lib.hid x.below
          clear hW1 lc0 lc1 lc2 lc3 lc4 lc5 lc6 lc7 lc8 lc9 lc10 lc11 lc12 lc13 lc14
          have HB1 := Lib.hid (bthen HB0.out HL.out HB0.out.size)
          have HM1 := Lib.hid (HM0.out.next HL.out)
          have HN1 := Lib.hid (HN0.out.next HL.out)
          have HR1 := Lib.hid (HR0.out.next HL.out)
          have HS1 := Lib.hid (HW1.out.next HL.out)
          clear a0 a1 a2 a3 a4 b0 b1 b2 b3 b4 z0 z1 z2 z3 z4
          go_wp2_with fail
          go_roundw
          case rel => exact ⟨k + 1, zS, by omega, by go_num, HNU, HR1, HN1, HM1, HB1⟩
          case measure => simp [intOf]; omega
        · have HP := Lib.hid hp
          have HNU : Hid (v = shU L P (k + 1)) := by unfold Hid; rw [(sh_first (by rw [HK.out]; exact hp) hn).2]; exact HK.out.symm
          clear hp hn
          have lc0 := lcell (a0)
          have lc1 := lcell (a1)
          have lc2 := lcell (a2)
          have lc3 := lcell (a3)
          have lc4 := lcell (a4)
          have lc5 := lcell (b0)
          have lc6 := lcell (b1)
          have lc7 := lcell (b2)
          have lc8 := lcell (b3)
          have lc9 := lcell (b4)
          have lc10 := lcell (z0)
          have lc11 := lcell (z1)
          have lc12 := lcell (z2)
          have lc13 := lcell (z3)
          have lc14 := lcell (z4)
          refine region_later (W := W0) (by kernel_rfl) (by kernel_rfl) (Below.refl _ _) ?_
          repeat (go_big_quiet_step (((first | (go_at_call 127; exact later_call ((HF.out _ v (bthen HB0.out (Later.below _) HB0.out.size) HG1).mono fun e w' h => ⟨by rw [h.1, HP.out], h.2⟩)) | (go_at_call 129; exact later_call (lowS_impl v HV.out _)) | (go_at_call 129; exact later_call (lowS_impl _ HU.out _))))))
          refine wpQuiet_nil ?_
          intro W1 hW1
          have HL : Hid (Below W0.heap.size W0 W1) := by obtain ⟨x, rfl⟩ := hW1; exact Lib.hid x.below
          clear hW1 lc0 lc1 lc2 lc3 lc4 lc5 lc6 lc7 lc8 lc9 lc10 lc11 lc12 lc13 lc14
          have HB1 := Lib.hid (bthen HB0.out HL.out HB0.out.size)
          have HM1 := Lib.hid (HM0.out.next HL.out)
          have HN1 := Lib.hid (HN0.out.next HL.out)
          have HR1 := Lib.hid (HR0.out.next HL.out)
          have HS1 := Lib.hid (HW1.out.next HL.out)
          clear a0 a1 a2 a3 a4 b0 b1 b2 b3 b4 z0 z1 z2 z3 z4
          have a0 := HS1.out.at_ 0 _ rfl
          have a1 := HS1.out.at_ 1 _ rfl
          have a2 := HS1.out.at_ 2 _ rfl
          have a3 := HS1.out.at_ 3 _ rfl
          have a4 := HS1.out.at_ 4 _ rfl
          have b0 := HM1.out.at_ 0 _ rfl
          have b1 := HM1.out.at_ 1 _ rfl
          have b2 := HM1.out.at_ 2 _ rfl
          have b3 := HM1.out.at_ 3 _ rfl
          have b4 := HM1.out.at_ 4 _ rfl
          have f0 := HM1.out.free 0
          have f1 := HM1.out.free 1
          have f2 := HM1.out.free 2
          have f3 := HM1.out.free 3
          have f4 := HM1.out.free 4
          have HM2 := Lib.hid (has_sound (u := ⟨0, 0, 0, 0, 0⟩) HM1.out v)
          have HN2 := Lib.hid (has_other HN1.out (show w.heap.size + 1 + 1 ≠ w.heap.size + 1 by omega) 0 [.int .i64 v.id, .int .i64 v.x, .int .i64 v.y, .int .i64 v.dep, .int .i64 v.dbt])
          have HR2 := Lib.hid (has_other HR1.out (show w.heap.size + 1 + 1 ≠ w.heap.size by omega) 0 [.int .i64 v.id, .int .i64 v.x, .int .i64 v.y, .int .i64 v.dep, .int .i64 v.dbt])
          have HB2 := Lib.hid (setL_below [.int .i64 v.id, .int .i64 v.x, .int .i64 v.y, .int .i64 v.dep, .int .i64 v.dbt] HB1.out (show w.heap.size ≤ w.heap.size + 1 + 1 by omega) 0)
          go_wp2_with fail
          go_roundw
          case rel => exact ⟨k + 1, v, by omega, by go_num, HNU, HR2, HN2, HM2, HB2⟩
          case measure => simp [intOf]; omega
      · obtain ⟨j, hj, _, he⟩ := shU_some hn
        rw [he] at hu
        have hu1 := HG.out.one j (by omega)
        rw [← hu.out] at hu1
        have HU := Lib.hid (sm_of hu1)
        have hd0 : (u.id == 0) = false := beq_eq_false_iff_ne.2 (by have := (sdB_parts hu1).1; omega)
        have HUE : Hid (u = shU L P k) := Lib.hid (hu.out.trans he.symm)
        have b0 := HM0.out.at_ 0 _ rfl
        have b1 := HM0.out.at_ 1 _ rfl
        have b2 := HM0.out.at_ 2 _ rfl
        have b3 := HM0.out.at_ 3 _ rfl
        have b4 := HM0.out.at_ 4 _ rfl
        clear hu hu1 he hj
        rcases hp : P v with _ | _
        · have HP := Lib.hid hp
          have HNU : Hid (u = shU L P (k + 1)) := by unfold Hid; rw [(sh_skip (by rw [HK.out]; exact hp)).2]; exact HUE.out
          clear hp hn
          have lc0 := lcell (a0)
          have lc1 := lcell (a1)
          have lc2 := lcell (a2)
          have lc3 := lcell (a3)
          have lc4 := lcell (a4)
          have lc5 := lcell (b0)
          have lc6 := lcell (b1)
          have lc7 := lcell (b2)
          have lc8 := lcell (b3)
          have lc9 := lcell (b4)
          have lc10 := lcell (z0)
          have lc11 := lcell (z1)
          have lc12 := lcell (z2)
          have lc13 := lcell (z3)
          have lc14 := lcell (z4)
          refine region_later (W := W0) (by kernel_rfl) (by kernel_rfl) (Below.refl _ _) ?_
          repeat (go_big_quiet_step (((first | (go_at_call 127; exact later_call ((HF.out _ v (bthen HB0.out (Later.below _) HB0.out.size) HG1).mono fun e w' h => ⟨by rw [h.1, HP.out], h.2⟩)) | (go_at_call 129; exact later_call (lowS_impl v HV.out _)) | (go_at_call 129; exact later_call (lowS_impl _ HU.out _))))))
          refine wpQuiet_nil ?_
          intro W1 hW1
          have HL : Hid (Below W0.heap.size W0 W1) := by obtain ⟨x, rfl⟩ := hW1; exact Lib.hid x.below
          clear hW1 lc0 lc1 lc2 lc3 lc4 lc5 lc6 lc7 lc8 lc9 lc10 lc11 lc12 lc13 lc14
          have HB1 := Lib.hid (bthen HB0.out HL.out HB0.out.size)
          have HM1 := Lib.hid (HM0.out.next HL.out)
          have HN1 := Lib.hid (HN0.out.next HL.out)
          have HR1 := Lib.hid (HR0.out.next HL.out)
          have HS1 := Lib.hid (HW1.out.next HL.out)
          clear a0 a1 a2 a3 a4 b0 b1 b2 b3 b4 z0 z1 z2 z3 z4
          go_wp2_with fail
          go_roundw
          case rel => exact ⟨k + 1, u, by omega, by go_num, HNU, HR1, HN1, HM1, HB1⟩
          case measure => simp [intOf]; omega
        by_cases hl : lowS v < lowS u
        · have HP := Lib.hid hp
          have HNU : Hid (v = shU L P (k + 1)) := by unfold Hid; rw [(sh_less (by rw [HK.out]; exact hp) hn (by rw [HK.out, ← HUE.out]; exact hl)).2]; exact HK.out.symm
          have hd : decide (lowS v < lowS u) = true := decide_eq_true hl
          clear hp hn hl
          have lc0 := lcell (a0)
          have lc1 := lcell (a1)
          have lc2 := lcell (a2)
          have lc3 := lcell (a3)
          have lc4 := lcell (a4)
          have lc5 := lcell (b0)
          have lc6 := lcell (b1)
          have lc7 := lcell (b2)
          have lc8 := lcell (b3)
          have lc9 := lcell (b4)
          have lc10 := lcell (z0)
          have lc11 := lcell (z1)
          have lc12 := lcell (z2)
          have lc13 := lcell (z3)
          have lc14 := lcell (z4)
          refine region_later (W := W0) (by kernel_rfl) (by kernel_rfl) (Below.refl _ _) ?_
          repeat (go_big_quiet_step (((first | (go_at_call 127; exact later_call ((HF.out _ v (bthen HB0.out (Later.below _) HB0.out.size) HG1).mono fun e w' h => ⟨by rw [h.1, HP.out], h.2⟩)) | (go_at_call 129; exact later_call (lowS_impl v HV.out _)) | (go_at_call 129; exact later_call (lowS_impl _ HU.out _))))))
          refine wpQuiet_nil ?_
          intro W1 hW1
          have HL : Hid (Below W0.heap.size W0 W1) := by obtain ⟨x, rfl⟩ := hW1; exact Lib.hid x.below
          clear hW1 lc0 lc1 lc2 lc3 lc4 lc5 lc6 lc7 lc8 lc9 lc10 lc11 lc12 lc13 lc14
          have HB1 := Lib.hid (bthen HB0.out HL.out HB0.out.size)
          have HM1 := Lib.hid (HM0.out.next HL.out)
          have HN1 := Lib.hid (HN0.out.next HL.out)
          have HR1 := Lib.hid (HR0.out.next HL.out)
          have HS1 := Lib.hid (HW1.out.next HL.out)
          clear a0 a1 a2 a3 a4 b0 b1 b2 b3 b4 z0 z1 z2 z3 z4
          have a0 := HS1.out.at_ 0 _ rfl
          have a1 := HS1.out.at_ 1 _ rfl
          have a2 := HS1.out.at_ 2 _ rfl
          have a3 := HS1.out.at_ 3 _ rfl
          have a4 := HS1.out.at_ 4 _ rfl
          have b0 := HM1.out.at_ 0 _ rfl
          have b1 := HM1.out.at_ 1 _ rfl
          have b2 := HM1.out.at_ 2 _ rfl
          have b3 := HM1.out.at_ 3 _ rfl
          have b4 := HM1.out.at_ 4 _ rfl
          have f0 := HM1.out.free 0
          have f1 := HM1.out.free 1
          have f2 := HM1.out.free 2
          have f3 := HM1.out.free 3
          have f4 := HM1.out.free 4
          have HM2 := Lib.hid (has_sound HM1.out v)
          have HN2 := Lib.hid (has_other HN1.out (show w.heap.size + 1 + 1 ≠ w.heap.size + 1 by omega) 0 [.int .i64 v.id, .int .i64 v.x, .int .i64 v.y, .int .i64 v.dep, .int .i64 v.dbt])
          have HR2 := Lib.hid (has_other HR1.out (show w.heap.size + 1 + 1 ≠ w.heap.size by omega) 0 [.int .i64 v.id, .int .i64 v.x, .int .i64 v.y, .int .i64 v.dep, .int .i64 v.dbt])
          have HB2 := Lib.hid (setL_below [.int .i64 v.id, .int .i64 v.x, .int .i64 v.y, .int .i64 v.dep, .int .i64 v.dbt] HB1.out (show w.heap.size ≤ w.heap.size + 1 + 1 by omega) 0)
          go_wp2_with fail
          go_roundw
          case rel => exact ⟨k + 1, v, by omega, by go_num, HNU, HR2, HN2, HM2, HB2⟩
          case measure => simp [intOf]; omega
        · have HP := Lib.hid hp
          have HNU : Hid (u = shU L P (k + 1)) := by unfold Hid; rw [(sh_more hn (by rw [HK.out, ← HUE.out]; exact hl)).2]; exact HUE.out
          have hd : decide (lowS v < lowS u) = false := decide_eq_false hl
          clear hp hn hl
          have lc0 := lcell (a0)
          have lc1 := lcell (a1)
          have lc2 := lcell (a2)
          have lc3 := lcell (a3)
          have lc4 := lcell (a4)
          have lc5 := lcell (b0)
          have lc6 := lcell (b1)
          have lc7 := lcell (b2)
          have lc8 := lcell (b3)
          have lc9 := lcell (b4)
          have lc10 := lcell (z0)
          have lc11 := lcell (z1)
          have lc12 := lcell (z2)
          have lc13 := lcell (z3)
          have lc14 := lcell (z4)
          refine region_later (W := W0) (by kernel_rfl) (by kernel_rfl) (Below.refl _ _) ?_
          repeat (go_big_quiet_step (((first | (go_at_call 127; exact later_call ((HF.out _ v (bthen HB0.out (Later.below _) HB0.out.size) HG1).mono fun e w' h => ⟨by rw [h.1, HP.out], h.2⟩)) | (go_at_call 129; exact later_call (lowS_impl v HV.out _)) | (go_at_call 129; exact later_call (lowS_impl _ HU.out _))))))
          refine wpQuiet_nil ?_
          intro W1 hW1
          have HL : Hid (Below W0.heap.size W0 W1) := by obtain ⟨x, rfl⟩ := hW1; exact Lib.hid x.below
          clear hW1 lc0 lc1 lc2 lc3 lc4 lc5 lc6 lc7 lc8 lc9 lc10 lc11 lc12 lc13 lc14
          have HB1 := Lib.hid (bthen HB0.out HL.out HB0.out.size)
          have HM1 := Lib.hid (HM0.out.next HL.out)
          have HN1 := Lib.hid (HN0.out.next HL.out)
          have HR1 := Lib.hid (HR0.out.next HL.out)
          have HS1 := Lib.hid (HW1.out.next HL.out)
          clear a0 a1 a2 a3 a4 b0 b1 b2 b3 b4 z0 z1 z2 z3 z4
          go_wp2_with fail
          go_roundw
          case rel => exact ⟨k + 1, u, by omega, by go_num, HNU, HR1, HN1, HM1, HB1⟩
          case measure => simp [intOf]; omega
    · obtain rfl : k = L.length := by omega
      obtain ⟨W0, rfl⟩ : ∃ W : World, W = wr := ⟨_, rfl⟩
      by_cases hn : shK L P L.length < 0
      · have HQ : Hid (decide (0 ≤ shK L P L.length) = false) := Lib.hid (decide_eq_false (by omega))
        have HUZ : Hid (u = zS) := by unfold Hid; rw [hu.out]; exact shU_none hn
        obtain rfl := HUZ.out
        clear HUZ
        dsimp only [zS] at hM
        have b0 := hM.out.at_ 0 _ rfl
        have b1 := hM.out.at_ 1 _ rfl
        have b2 := hM.out.at_ 2 _ rfl
        have b3 := hM.out.at_ 3 _ rfl
        have b4 := hM.out.at_ 4 _ rfl
        have r0 := hR.out.at_ 0 _ rfl
        have r1 := hR.out.at_ 1 _ rfl
        have r2 := hR.out.at_ 2 _ rfl
        have r3 := hR.out.at_ 3 _ rfl
        have r4 := hR.out.at_ 4 _ rfl
        have f0 := hR.out.free 0
        have f1 := hR.out.free 1
        have f2 := hR.out.free 2
        have f3 := hR.out.free 3
        have f4 := hR.out.free 4
        clear hn
        have HC := Lib.hid (has_sound (u := ⟨0, 0, 0, 0, 0⟩) hR.out zS)
        have HB2 := Lib.hid (setL_below [.int .i64 0, .int .i64 0, .int .i64 0, .int .i64 0, .int .i64 0] hB.out (show w.heap.size ≤ w.heap.size by omega) 0)
        go_wp2_with fail
        go_region
        go_wp2_with fail
        refine bodyPost_ret (v := .tuple #[.agg #[.int .i64 0, .int .i64 0, .int .i64 0, .int .i64 0, .int .i64 0], .bool false]) (by simp [results, Try.results126, go_sem, r0, r1, r2, r3, r4]) rfl ⟨zS, hu, by rw [HQ.out]; rfl, bdrewN HB2.out 1⟩
      · obtain ⟨j, hj, _, he⟩ := shU_some hn
        have hu1 := HG.out.one j hj
        rw [← he, ← hu.out] at hu1
        have hd0 : (u.id == 0) = false := beq_eq_false_iff_ne.2 (by have := (sdB_parts hu1).1; omega)
        have HQ : Hid (decide (0 ≤ shK L P L.length) = true) := Lib.hid (decide_eq_true (by omega))
        have b0 := hM.out.at_ 0 _ rfl
        have b1 := hM.out.at_ 1 _ rfl
        have b2 := hM.out.at_ 2 _ rfl
        have b3 := hM.out.at_ 3 _ rfl
        have b4 := hM.out.at_ 4 _ rfl
        clear hu1 he hj
        have r0 := hR.out.at_ 0 _ rfl
        have r1 := hR.out.at_ 1 _ rfl
        have r2 := hR.out.at_ 2 _ rfl
        have r3 := hR.out.at_ 3 _ rfl
        have r4 := hR.out.at_ 4 _ rfl
        have f0 := hR.out.free 0
        have f1 := hR.out.free 1
        have f2 := hR.out.free 2
        have f3 := hR.out.free 3
        have f4 := hR.out.free 4
        clear hn
        have HC := Lib.hid (has_sound (u := ⟨0, 0, 0, 0, 0⟩) hR.out u)
        have HB2 := Lib.hid (setL_below [.int .i64 u.id, .int .i64 u.x, .int .i64 u.y, .int .i64 u.dep, .int .i64 u.dbt] hB.out (show w.heap.size ≤ w.heap.size by omega) 0)
        go_wp2_with fail
        go_region
        go_wp2_with fail
        refine bodyPost_ret (v := .tuple #[.agg #[.int .i64 u.id, .int .i64 u.x, .int .i64 u.y, .int .i64 u.dep, .int .i64 u.dbt], .bool true]) (by simp [results, Try.results126, go_sem, r0, r1, r2, r3, r4]) rfl ⟨u, hu, by rw [HQ.out], bdrewN HB2.out 1⟩
end Go.Proofs.Ytdmnkmdlochogaa
