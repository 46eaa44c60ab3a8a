/-
  Proved here: for every code the law laws.FnLinePlans returns true (the strips of planned lines together have all of their box and one line fewer would not, and the order, the turns, the overlap and the lengths answer as the model), and the argument reads afterwards as before.
  Conditions: none beyond the row's own.
-/
import Derived.Test.YtdmnkmdlochogabPl17
namespace Go.Proofs.Ytdmnkmdlochogab.fnLinePlans
open Go.Joins Go.ChangeShapes Go.WideShapes Go.ChangeAt Go.RowKit Go.Deep
set_option linter.unusedVariables false

/-! ### The walk: the Go text returns true, and nothing that was there has turned. -/
set_option maxRecDepth 20000 in
set_option maxHeartbeats 12800000 in
theorem walk (A : Option Addr) (n c : Nat) (w : World) (hm : n ≤ maxLen) (hr : CodeRow w.heap.size A n w) :
    Calls Try.prog 3 #[.slice A n c] w fun e w' => e = .returned (.bool true) ∧ Below w.heap.size w w' := by
  rcases hb0 : decide ((65536 : Int) < n) with _ | _
  rotate_left
  · have HV := Lib.hid hb0
    clear hb0
    go_enter Try.func3, Try.ntmps3
    go_wp2_with fail
    refine (vBig_any _ _ _ _ HV.out _).mono ?_
    rintro e w' ⟨rfl, rfl⟩
    go_wp2_with fail
    go_ret
    exact ⟨rfl, Below.refl _ _⟩
  have HV := Lib.hid hb0
  have HRW := Lib.hid hr
  clear hb0 hr
  have HB0 := Lib.hid (Below.refl w.heap.size w)
  go_enter Try.func3, Try.ntmps3
  go_wp2_with fail
  refine (vBig_any _ _ _ _ HV.out _).mono ?_
  rintro e w' ⟨rfl, rfl⟩
  go_wp2_with fail
  refine (draw_plan A n c _ (HRW.out.below HB0.out HB0.out.size)).mono ?_
  rintro e w1 ⟨x, y, z, u, s, rfl, hb⟩
  have HB1 := Lib.hid (bthen HB0.out hb HB0.out.size)
  clear hb
  obtain ⟨R, HR⟩ : ∃ R, Hid (plR x y z u s = R) := ⟨_, Lib.hid rfl⟩
  obtain ⟨K, HK⟩ : ∃ K, Hid (plK x y z u s = K) := ⟨_, Lib.hid rfl⟩
  obtain ⟨X1, hX1⟩ : ∃ W, W = w1.alloc (.cells #[.int .i64 x, .int .i64 y, .int .i64 z, .int .i64 u] 25) := ⟨_, rfl⟩
  have HX1 : Hid (Below w1.heap.size w1 X1 ∧ Has X1 w1.heap.size [.int .i64 x, .int .i64 y, .int .i64 z, .int .i64 u]) := by rw [hX1]; exact box1 (Below.refl _ _)
  have HE := Lib.hid hX1
  have HBX1 := Lib.hid (bthen HB1.out HX1.out.1 HB1.out.size)
  clear hX1
  go_upto_region 4 with fail
  rw [← HE.out]
  clear HE
  have e0 := HX1.out.2.at_ 0 _ rfl
  have e1 := HX1.out.2.at_ 1 _ rfl
  have e2 := HX1.out.2.at_ 2 _ rfl
  have e3 := HX1.out.2.at_ 3 _ rfl
  go_wp2_with fail
  refine (plan_impl x y z u s _).mono ?_
  unfold LinesPost
  rw [HR.out, HK.out]
  rintro e w2 ⟨A2, c2, rfl, ho2, hb⟩
  have HB2 := Lib.hid (bthen HBX1.out hb HBX1.out.size)
  have HO2 := Lib.hid ho2.sds
  have HX2 := Lib.hid (HX1.out.2.next hb)
  clear hb ho2 e0 e1 e2 e3
  have e0 := HX2.out.at_ 0 _ rfl
  have e1 := HX2.out.at_ 1 _ rfl
  have e2 := HX2.out.at_ 2 _ rfl
  have e3 := HX2.out.at_ 3 _ rfl
  have hRl : R.length ≤ 8 := by rw [← HR.out]; exact plR_short x y z u s
  have hmR : R.length ≤ maxLen := by unfold maxLen; omega
  go_wp2_with fail
  refine (plan_spec x y z u s _).mono ?_
  unfold LinesPost
  rw [HR.out, HK.out]
  rintro e w3 ⟨A3, c3, rfl, ho3, hb⟩
  have HB3 := Lib.hid (bthen HB2.out hb HB2.out.size)
  have HO3 := Lib.hid ho3.sds
  have HP3 := Lib.hid (sds_atN HO2.out hb)
  have HX3 := Lib.hid (HX2.out.next hb)
  clear hb ho3 e0 e1 e2 e3
  go_wp2_with fail
  refine (vN_same _ _ _ _ _ R _ HP3.out HO3.out hmR).mono ?_
  rintro e W4 ⟨rfl, hb⟩
  have HB4 := Lib.hid (bthen HB3.out hb HB3.out.size)
  have HP4 := Lib.hid (sds_atN HP3.out hb)
  have HX4 := Lib.hid (HX3.out.next hb)
  clear hb
  go_upto_if 62 with fail
  rename (Act → World → Prop) => KK
  rename (∀ (a : Act) (w : World), _ → KK a w) => aK
  have HKK := Lib.hid aK
  clear aK
  rcases K with _ | _
  · go_wp2_with fail
    exact HKK.out _ _ (tailP17 rfl A n c w _ HRW.out HB4.out _ _ _ _ _ _ _ _ _ _ _ _ _ _ _ _ _ _ _ _ _ _ _ _ _ _ _ _ _ _ _ _ _ _ _ _ _ _ _ _ _ _ _ _ _ _ _ _ _ _ _ _ _ _ _ _ _ _ _ _ _ _ _ _ _ _ _ _ _ _ _ _ _ _ _ _ _ _ _ _ _ _ _ _ _ _ _ _ _ _ _ _ _ _ _ _ _ _ _ _ _ _ _ _ _ _ _ _ _ _ _ _ _ _ _ _ _ _ _ _ _ _ _ _ _ _ _ _ _ _ _ _ _ _ _ _ _ _ _ _ _ _ _ _ _ _ _ _ _ _ _ _ _ _ _ _ _ _ _ _ _ _ _ _ _ _ _ _ _ _ _ _ _ _ _ _ _ _ _ _ _ _ _ _ _ _ _ _ _ _ _ _ _ _ _ _ _ _ _ _ _ _ _ _ _ _ _ _ _ _ _ _ _ _ _ _ _ _ _ _ _ _ _ _ _ _ _ _ _ _ _ _ _ _ _ _ _ _ _ _ _ _ _ _ _ _ _ _ _ _ _ _ _)
  obtain ⟨q, hq, hq7, hgood, ⟨hs1, hs3⟩, ⟨hy0, hyu, hu1⟩, hE, hall⟩ := plan_is HK.out
  rw [HR.out] at hq hgood hall
  have HG := Lib.hid hgood
  have HE := Lib.hid hE
  have HA := Lib.hid hall
  have HP5 : Hid (SdsN W4 W4.heap.size A2 (q + 1) R) := Lib.hid (by rw [← hq]; exact HP4.out)
  rw [hq]
  clear hq hgood hE hall HP4 hRl hmR
  have HAR : Hid (∀ W : World, Below W4.heap.size W4 W → Calls Try.prog 19 #[.slice A2 (q + 1) c2] W fun e w' => e = .returned (.bool true) ∧ Below W.heap.size W w') := Lib.hid fun W hW => by
    have := lns_impl A2 (q + 1) c2 R W (sds_atN HP5.out hW) (by unfold maxLen; omega)
    rwa [HG.out] at this
  obtain ⟨b0, o0, v0, rfl, hb0, hL0, _, p1, _, _, _⟩ := HP5.out.2 0 (by omega)
  obtain ⟨b', o', v1, hA', _, hL1, _, q1, _, _, _⟩ := HP5.out.2 q (by omega)
  obtain ⟨rfl, rfl⟩ : b0 = b' ∧ o0 = o' := by injection hA' with h; injection h with h h'; exact ⟨h, h'⟩
  have e1 := HX4.out.at_ 1 _ rfl
  have e3 := HX4.out.at_ 3 _ rfl
  simp only [Nat.zero_mul, Nat.add_zero] at p1
  obtain ⟨hv0, hv01, hv02⟩ := HA.out _ _ hL0
  obtain ⟨hv1, hv11, hv12⟩ := HA.out _ _ hL1
  have f1 : v0.y - s ≤ y := by rw [hv0]; exact plEnd_first
  have f2 : u ≤ v1.y + s := by rw [hv1]; have := plEnd_last (w := x) (e := z) HE.out; rwa [Nat.add_sub_cancel] at this
  have d1 : decide (y < v0.y - s) = false := decide_eq_false (by omega)
  have d2 : decide (v1.y + s < u) = false := decide_eq_false (by omega)
  by_cases hz : q = 0
  · subst hz
    obtain rfl : v0 = v1 := Option.some.inj (hL0.symm.trans hL1)
    clear hv0 hv1 hL0 hL1 hA' q1
    go_wp2_with fail
    have lc0 := lcell (p1)
    have lc1 := lcell (e1)
    have lc2 := lcell (e3)
    refine region_later (W := W4) (by kernel_rfl) (by kernel_rfl) (Below.refl _ _) ?_
    repeat (go_big_quiet_step (((go_at_call 19; exact later_call (HAR.out _ (Later.below _))))))
    refine wpQuiet_nil ?_
    intro W5 hW1
    have HL : Hid (Below W4.heap.size W4 W5) := by obtain ⟨x, rfl⟩ := hW1; exact Lib.hid x.below
    clear hW1 lc0 lc1 lc2
    have HB5 := Lib.hid (bthen HB4.out HL.out HB4.out.size)
    clear p1 e1 e3
    go_wp2_with fail
    go_loopw [10] (fun i wr => i = .int .i64 1 ∧ Hid (Below w.heap.size w wr)) (fun _ _ => 0)
    case atStart => exact ⟨rfl, HB5⟩
    case round =>
      obtain ⟨rfl, hB⟩ := hrel
      go_wp2_with fail
      exact HKK.out _ _ (tailP17 rfl A n c w _ HRW.out hB.out _ _ _ _ _ _ _ _ _ _ _ _ _ _ _ _ _ _ _ _ _ _ _ _ _ _ _ _ _ _ _ _ _ _ _ _ _ _ _ _ _ _ _ _ _ _ _ _ _ _ _ _ _ _ _ _ _ _ _ _ _ _ _ _ _ _ _ _ _ _ _ _ _ _ _ _ _ _ _ _ _ _ _ _ _ _ _ _ _ _ _ _ _ _ _ _ _ _ _ _ _ _ _ _ _ _ _ _ _ _ _ _ _ _ _ _ _ _ _ _ _ _ _ _ _ _ _ _ _ _ _ _ _ _ _ _ _ _ _ _ _ _ _ _ _ _ _ _ _ _ _ _ _ _ _ _ _ _ _ _ _ _ _ _ _ _ _ _ _ _ _ _ _ _ _ _ _ _ _ _ _ _ _ _ _ _ _ _ _ _ _ _ _ _ _ _ _ _ _ _ _ _ _ _ _ _ _ _ _ _ _ _ _ _ _ _ _ _ _ _ _ _ _ _ _ _ _ _ _ _ _ _ _ _ _ _ _ _ _ _ _ _ _ _ _ _ _ _ _ _ _ _ _)
  clear hv0 hv1 hL0 hL1 hA'
  have hn0 : ((q : Int) + 1 == 0) = false := beq_eq_false_iff_ne.2 (by omega)
  have hn1 : decide ((q : Int) + 1 = 0) = false := decide_eq_false (by omega)
  have hgap := plEnd_gap HE.out hs1 (show 1 < q + 1 by omega)
  obtain ⟨P, hP⟩ : ∃ P, (q : Int) * 2 * s = P := ⟨_, rfl⟩
  have hgap2 : P < u - y := by rw [← hP]; have e : (((q + 1 : Nat) : Int) - 1) = q := by omega
                               rw [e] at hgap; exact hgap
  have hP0 : 0 ≤ P := by rw [← hP]; exact Int.mul_nonneg (by omega) (by omega)
  have hw : IntKind.i64.wrap ((q : Int) * 2 * s) = P := by rw [hP]; exact IntWalk.i64_in _ (by omega)
  have d3 : decide (u - y ≤ P) = false := decide_eq_false (by omega)
  have d4 : decide ((1 : Int) < (q : Int) + 1) = true := decide_eq_true (by omega)
  clear hgap
  go_wp2_with fail
  have lc0 := lcell (p1)
  have lc1 := lcell (q1)
  have lc2 := lcell (e1)
  have lc3 := lcell (e3)
  refine region_later (W := W4) (by kernel_rfl) (by kernel_rfl) (Below.refl _ _) ?_
  repeat (go_big_quiet_step (((go_at_call 19; exact later_call (HAR.out _ (Later.below _))))))
  refine wpQuiet_nil ?_
  intro W5 hW1
  have HL : Hid (Below W4.heap.size W4 W5) := by obtain ⟨x, rfl⟩ := hW1; exact Lib.hid x.below
  clear hW1 lc0 lc1 lc2 lc3
  have HB5 := Lib.hid (bthen HB4.out HL.out HB4.out.size)
  have HP6 := Lib.hid (sds_atN HP5.out HL.out)
  clear p1 q1 e1 e3 HP5 d1 d2 d3 d4 hw hP f1 f2 HL
  go_wp2_with fail
  go_loopw [10] (fun i wr => ∃ k : Nat, k ≤ q ∧ i = .int .i64 ((k + 1 : Nat) : Int) ∧ Hid (Below W5.heap.size W5 wr)) (fun i _ => q + 1 - (intOf i).toNat)
  case atStart => exact ⟨0, Nat.zero_le _, rfl, Lib.hid (Below.refl _ _)⟩
  case round =>
    obtain ⟨k, hk, rfl, hB⟩ := hrel
    have HBT := Lib.hid (bthen HB5.out hB.out HB5.out.size)
    obtain ⟨W0, rfl⟩ : ∃ W : World, W = wr := ⟨_, rfl⟩
    by_cases hlt : k < q
    rotate_left
    · obtain rfl : k = q := by omega
      go_wp2_with fail
      exact HKK.out _ _ (tailP17 rfl A n c w _ HRW.out HBT.out _ _ _ _ _ _ _ _ _ _ _ _ _ _ _ _ _ _ _ _ _ _ _ _ _ _ _ _ _ _ _ _ _ _ _ _ _ _ _ _ _ _ _ _ _ _ _ _ _ _ _ _ _ _ _ _ _ _ _ _ _ _ _ _ _ _ _ _ _ _ _ _ _ _ _ _ _ _ _ _ _ _ _ _ _ _ _ _ _ _ _ _ _ _ _ _ _ _ _ _ _ _ _ _ _ _ _ _ _ _ _ _ _ _ _ _ _ _ _ _ _ _ _ _ _ _ _ _ _ _ _ _ _ _ _ _ _ _ _ _ _ _ _ _ _ _ _ _ _ _ _ _ _ _ _ _ _ _ _ _ _ _ _ _ _ _ _ _ _ _ _ _ _ _ _ _ _ _ _ _ _ _ _ _ _ _ _ _ _ _ _ _ _ _ _ _ _ _ _ _ _ _ _ _ _ _ _ _ _ _ _ _ _ _ _ _ _ _ _ _ _ _ _ _ _ _ _ _ _ _ _ _ _ _ _ _ _ _ _ _ _ _ _ _ _ _ _ _ _ _ _ _ _)
    obtain ⟨b', o', a, hA', _, hLa, _, r1, _, _, _⟩ := (sds_atN HP6.out hB.out).2 (k + 1) (by omega)
    obtain ⟨rfl, rfl⟩ : b0 = b' ∧ o0 = o' := by injection hA' with h; injection h with h h'; exact ⟨h, h'⟩
    clear hA'
    obtain ⟨b', o', a', hA', _, hLb, _, r2, _, _, _⟩ := (sds_atN HP6.out hB.out).2 k (by omega)
    obtain ⟨rfl, rfl⟩ : b0 = b' ∧ o0 = o' := by injection hA' with h; injection h with h h'; exact ⟨h, h'⟩
    clear hA'
    obtain ⟨ha, ha1, ha2⟩ := HA.out _ _ hLa
    obtain ⟨hb, hb1, hb2⟩ := HA.out _ _ hLb
    have g1 : a.y - a'.y ≤ 2 * s := by rw [ha, hb]; exact (plEnd_step HE.out hs1 (by omega)).1
    have d5 : decide (2 * s < a.y - a'.y) = false := decide_eq_false (by omega)
    clear ha hb hLa hLb g1
    go_wp2_with fail
    have lc0 := lcell (r1)
    have lc1 := lcell (r2)
    refine region_later (W := W0) (by kernel_rfl) (by kernel_rfl) (Below.refl _ _) ?_
    repeat (go_big_quiet_step (fail))
    refine wpQuiet_nil ?_
    intro W6 hW1
    have HL : Hid (Below W0.heap.size W0 W6) := by obtain ⟨x, rfl⟩ := hW1; exact Lib.hid x.below
    clear hW1 lc0 lc1
    have HB7 := Lib.hid (bthen hB.out HL.out hB.out.size)
    clear r1 r2 HL
    go_wp2_with fail
    go_roundw
    case rel => exact ⟨k + 1, by omega, by go_num, HB7⟩
    case measure => simp [intOf]; omega
set_option maxRecDepth 100000 in
theorem lifted (os : Os) (started : os.Started) (H : Type) (enc : TypeId × Value → H) :
    ReturnsInHanded {} Try.checked os 3 .any (Rows.fnLinePlansSpec.pre6 enc Try.prog Try.f3 Rows.fnLinePlansRow.domain false) (Rows.fnLinePlansSpec.post enc Try.prog Try.f3 false true false false) := by
  refine returnsInHanded_of_change (C := Try.checked) own started (by kernel_rfl) Try.func3
    (ChangeSpec.witness6 (enc := enc) (C := Try.checked) false ⟨#[], #[.slice none 0 0], []⟩ 8 (by kernel_rfl) (by kernel_rfl) (by kernel_rfl) (by kernel_rfl)) ?_
  intro W base args ds gs before hval0 hW hcnd _
  have hval : ∀ (j : Nat) t v, Try.f3.params[j]? = some t → args[j]? = some v → Value.okWide Try.prog W .any base t v := hval0
  have hW' := hW
  obtain ⟨p, q, hA0, hV, rfl, hfz, hnd⟩ := hW
  have hA : DataW.TrodAll enc Try.prog W 0 (fun _ => true) true Try.f3.params.toList args.toList ds p := hA0
  rw [Try.params3] at hA hval
  obtain ⟨v0, vs0, d0, ds0, p0, q0, hargs, rfl, rfl, h0, r0⟩ := trodAll_cons hA
  obtain ⟨rfl, rfl, rfl⟩ := trodAll_nil r0
  obtain rfl : args = #[v0] := by cases args; simp_all
  obtain ⟨rfl, rfl⟩ := trodVars_none hV
  have k0 := h0
  have lt0 : ∀ x ∈ p0, x.block < W.heap.size := by obtain ⟨m, hm⟩ := k0; exact DataW.trod_lt m _ _ _ hm
  obtain ⟨A0, n0, c0, rfl⟩ := okWide_slice Try.underlying22 (hval 0 22 v0 rfl rfl)
  obtain ⟨m0, w0⟩ := open_code h0
  clear hA0 hval0
  refine (walk A0 n0 c0 W m0 w0).mono fun e W1 ⟨he, bel⟩ => ?_
  subst he
  exact ⟨_, rfl, _, _, _, [], _, [], hW', trodAll_mk1 (shut_bool Try.underlying4 _), (trodAll_cons_mk (Below.trod laidOut (by kernel_rfl) (of_decide_eq_true (by kernel_rfl)) k0 bel lt0) trodAll_mk0), rfl, bel.frame _, fun h => by cases h⟩

/-- The statement. -/
theorem proved : Rows.FnLinePlansSaid :=
  OpenClaim.holds_of_wide 3 Try.f3 rfl rfl rfl rfl rfl rfl rfl ⟨rfl, rfl, rfl, rfl, rfl⟩ rfl rfl rfl rfl rfl (by kernel_rfl) Try.func3 (by kernel_rfl)
    (of_decide_eq_true (by kernel_rfl)) (by unfold Func.isWrapper; first | (rw [if_pos (by decide +kernel)]; kernel_rfl) | (rw [if_neg (by decide +kernel)]; exact ⟨rfl, rfl⟩))
    (fun os started H enc _ => lifted os started H enc)
#print axioms proved
end Go.Proofs.Ytdmnkmdlochogab.fnLinePlans
