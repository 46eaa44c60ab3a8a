/-
  Proved here: for every code the law laws.FnDownTimes returns true (sound reaches no greater depth in less time, and bends are told between all layers), and the argument reads afterwards as before.
  Conditions: none beyond the row's own.
-/
import Derived.Test.YtdmnkmdlochogabYr22
namespace Go.Proofs.Ytdmnkmdlochogab.fnDownTimes
open Go.Joins Go.ChangeShapes Go.WideShapes Go.ChangeAt Go.RowKit Go.Deep
set_option linter.unusedVariables false

/-! ### The walk: the Go text returns true, and nothing that was there has turned. -/
set_option maxRecDepth 20000 in
set_option maxHeartbeats 12800000 in
theorem walk (A : Option Addr) (n c : Nat) (w : World) (hm : n ≤ maxLen) (hr : CodeRow w.heap.size A n w) :
    Calls Try.prog 5 #[.slice A n c] w fun e w' => e = .returned (.bool true) ∧ Below w.heap.size w w' := by
  rcases hb0 : decide ((65536 : Int) < n) with _ | _
  rotate_left
  · have HV := Lib.hid hb0
    clear hb0
    go_enter Try.func5, Try.ntmps5
    go_wp2_with fail
    refine (vBig_any _ _ _ _ HV.out _).mono ?_
    rintro e w' ⟨rfl, rfl⟩
    go_wp2_with fail
    go_ret
    exact ⟨rfl, Below.refl _ _⟩
  have HV := Lib.hid hb0
  have HRW := Lib.hid hr
  clear hb0 hr
  have HB0 := Lib.hid (Below.refl w.heap.size w)
  go_enter Try.func5, Try.ntmps5
  go_wp2_with fail
  refine (vBig_any _ _ _ _ HV.out _).mono ?_
  rintro e w' ⟨rfl, rfl⟩
  go_wp2_with fail
  refine (draw_down A n c _ (HRW.out.below HB0.out HB0.out.size)).mono ?_
  rintro e w1 ⟨Ra, la, pa, x, rfl, hD⟩
  obtain ⟨⟨h6a, hma, hcpa, hcma⟩, hs, hb⟩ := hD
  have HBx2 := Lib.hid (bthen HB0.out hb HB0.out.size)
  clear hb
  have HSa := Lib.hid hs
  clear hs
  obtain ⟨Na, hN⟩ : ∃ N, qN (dtO la x) = N := ⟨_, rfl⟩
  obtain ⟨Da, hDD⟩ : ∃ D, qD (dtO la x) = D := ⟨_, rfl⟩
  obtain ⟨Ka, hK⟩ : ∃ K, qK (dtO la x) = K := ⟨_, rfl⟩
  have HOa := Lib.hid (And.intro hN (And.intro hDD hK))
  clear hN hDD hK
  go_wp2_with fail
  refine (downTime_impl _ _ pa la x _ HSa.out hma hcpa hcma).mono ?_
  rintro e w3 ⟨he, hb⟩
  rw [HOa.out.1, HOa.out.2.1, HOa.out.2.2] at he
  subst he
  have HBx4 := Lib.hid (bthen HBx2.out hb HBx2.out.size)
  have HSa_4 := Lib.hid (spots_at HSa.out hb)
  clear hb
  go_wp2_with fail
  refine (downTime_spec _ _ pa la x _ HSa_4.out hma hcpa hcma).mono ?_
  rintro e w5 ⟨he, hb⟩
  rw [HOa.out.1, HOa.out.2.1, HOa.out.2.2] at he
  subst he
  have HBx6 := Lib.hid (bthen HBx4.out hb HBx4.out.size)
  have HSa_6 := Lib.hid (spots_at HSa_4.out hb)
  clear hb
  have hzz : Ka = false ∨ (Ka = true ∧ 0 ≤ Na ∧ (Na = 0 ↔ x = 0)) := by
    rcases Ka with _ | _
    · exact .inl rfl
    · obtain ⟨r, hr⟩ := some_qK (o := dtO la x) HOa.out.2.2
      have h1 := HOa.out.1
      rw [hr] at h1
      have h2 := dt_zero hr
      refine .inr ⟨rfl, ?_⟩
      rw [← h1]; exact h2
  have hzc : (Ka = false ∧ (True ∧ True)) ∨ (Ka = true ∧ (decide (Na < 0) = false ∧ (Na == 0) = true ∧ (x == 0) = true)) ∨ (Ka = true ∧ (decide (Na < 0) = false ∧ (Na == 0) = false ∧ (x == 0) = false)) := by
    rcases hzz with h | ⟨h, h0, h1⟩
    · exact .inl ⟨h, trivial, trivial⟩
    · by_cases q : x = 0
      · exact .inr (.inl ⟨h, decide_eq_false (by omega), beq_iff_eq.2 (h1.2 q), beq_iff_eq.2 q⟩)
      · exact .inr (.inr ⟨h, decide_eq_false (by omega), beq_eq_false_iff_ne.2 (fun e => q (h1.1 e)), beq_eq_false_iff_ne.2 q⟩)
  clear hzz
  rcases hzc with ⟨rfl, _⟩ | ⟨rfl, e1, e2, e3⟩ | ⟨rfl, e1, e2, e3⟩
  all_goals
    go_wp2_with fail
    refine (draw_after A n c _ (HRW.out.below HBx6.out HBx6.out.size)).mono ?_
    rintro e w101 ⟨Rb, lb, pb, t, rfl, hD⟩
    obtain ⟨⟨h6b, hmb, hcpb, hcmb⟩, hs, hb⟩ := hD
    have HBx102 := Lib.hid (bthen HBx6.out hb HBx6.out.size)
    clear hb
    have HSb := Lib.hid hs
    clear hs
    obtain ⟨Nb, hN⟩ : ∃ N, qN (daO lb t) = N := ⟨_, rfl⟩
    obtain ⟨Db, hDD⟩ : ∃ D, qD (daO lb t) = D := ⟨_, rfl⟩
    obtain ⟨Kb, hK⟩ : ∃ K, qK (daO lb t) = K := ⟨_, rfl⟩
    have HOb := Lib.hid (And.intro hN (And.intro hDD hK))
    clear hN hDD hK
    go_wp2_with fail
    refine (depthAfter_impl _ _ pb lb t _ HSb.out hmb hcpb hcmb).mono ?_
    rintro e w103 ⟨he, hb⟩
    rw [HOb.out.1, HOb.out.2.1, HOb.out.2.2] at he
    subst he
    have HBx104 := Lib.hid (bthen HBx102.out hb HBx102.out.size)
    have HSb_104 := Lib.hid (spots_at HSb.out hb)
    clear hb
    go_wp2_with fail
    refine (depthAfter_spec _ _ pb lb t _ HSb_104.out hmb).mono ?_
    rintro e w105 ⟨he, hb⟩
    rw [HOb.out.1, HOb.out.2.1, HOb.out.2.2] at he
    subst he
    have HBx106 := Lib.hid (bthen HBx104.out hb HBx104.out.size)
    have HSb_106 := Lib.hid (spots_at HSb_104.out hb)
    clear hb
    rcases Kb with _ | _
    · go_upto_if 116 with fail
      rename (Act → World → Prop) => KK
      rename (∀ (a : Act) (w : World), _ → KK a w) => aK
      have HKK := Lib.hid aK
      clear aK
      go_wp2_with fail
      exact HKK.out _ _ (tail22 rfl A n c w _ HRW.out HBx106.out _ _ _ _ _ _ _ _ _ _ _ _ _ _ _ _ _ _ _ _ _ _ _ _ _ _ _ _ _ _ _ _ _ _ _ _ _ _ _ _ _ _ _ _ _ _ _ _ _ _ _ _ _ _ _ _ _ _ _ _ _ _ _ _ _ _ _ _ _ _ _ _ _ _ _ _ _ _ _ _ _ _ _ _ _ _ _ _ _ _ _ _ _ _ _ _ _ _ _ _ _ _ _ _ _ _ _ _ _ _ _ _ _ _ _ _ _ _ _ _ _ _ _ _ _ _ _ _ _ _ _ _ _ _ _ _ _ _ _ _ _ _ _ _ _ _ _ _ _ _ _ _ _ _ _ _ _ _ _ _ _ _ _ _ _ _ _ _ _ _ _ _ _ _ _ _ _ _ _ _ _ _ _ _ _ _ _ _ _ _ _ _ _ _ _ _ _ _ _ _ _ _ _ _ _ _ _ _ _ _ _ _ _ _ _ _ _ _ _ _ _ _ _ _ _ _ _ _ _ _ _ _ _ _ _ _ _ _ _ _ _ _ _ _ _ _ _ _ _ _ _ _ _ _ _ _ _ _ _ _ _ _ _ _)
    obtain ⟨r, hr⟩ := some_qK (o := daO lb t) HOb.out.2.2
    obtain rfl : Nb = r.num := by have := HOb.out.1; rw [hr] at this; exact this.symm
    obtain rfl : Db = (r.den : Int) := by have := HOb.out.2.1; rw [hr] at this; exact this.symm
    have HEr := Lib.hid hr
    clear hr
    go_upto_if 116 with fail
    rename (Act → World → Prop) => KK
    rename (∀ (a : Act) (w : World), _ → KK a w) => aK
    have HKK := Lib.hid aK
    clear aK
    obtain ⟨⟨hr0, hr1⟩, hd0, hd1⟩ := da_range HEr.out
    obtain ⟨hst, ⟨ht0, ht1⟩, _⟩ := da_parts HEr.out
    obtain ⟨T, hT⟩ : ∃ T, thk lb = T := ⟨_, rfl⟩
    have HT : Hid (tdN lb = T ∧ strB lb = true) := by unfold Hid tdN; rw [hst, ← hT]; exact ⟨rfl, rfl⟩
    have hTb := thk_bd (str_parts hst).2
    have hl5 := (str_parts hst).1
    rw [hT] at hTb hr1
    obtain ⟨M, hM⟩ : ∃ M, T * (r.den : Int) = M := ⟨_, rfl⟩
    have hMb := mulY_bd (a := T) (b := r.den) (m := 25000) (n := 83521000000000) (by omega) (by omega) (by omega) (by omega)
    rw [hM] at hMb hr1
    obtain ⟨hMb1, hMb2⟩ := hMb
    obtain ⟨rn, hrn⟩ : ∃ rn : Nat, r.num = rn := ⟨r.num.toNat, by omega⟩
    obtain ⟨rd, hrd⟩ : ∃ rd : Nat, r.den = rd := ⟨_, rfl⟩
    obtain ⟨Fq, hF⟩ : ∃ Fq : Int, (rn : Int) / (rd : Int) = Fq := ⟨_, rfl⟩
    have hF0 : 0 ≤ Fq := by rw [← hF]; exact Int.ediv_nonneg (by omega) (by omega)
    have hF1 : Fq * (r.den : Int) ≤ r.num := by rw [hrn, hrd, ← hF]; exact Int.ediv_mul_le _ (by omega)
    obtain ⟨s, hs, hst2⟩ := da_time HEr.out hF0 hF1
    have HOz : Hid (qN (dtO lb Fq) = s.num ∧ qD (dtO lb Fq) = s.den ∧ qK (dtO lb Fq) = true) := by rw [hs]; exact Lib.hid ⟨rfl, rfl, rfl⟩
    obtain ⟨E, hE⟩ : ∃ E, t * (s.den : Int) = E := ⟨_, rfl⟩
    have hsd : s.den ≤ 14198570000000000 := dt_den hs
    have hEb := mulY_bd (a := t) (b := s.den) (m := 200) (n := 14198570000000000) (by omega) (by omega) (by omega) (by omega)
    rw [hE] at hEb hst2
    obtain ⟨hE1, hE2⟩ := hEb
    have hFb : Fq ≤ 9000000000000000000 := by rw [← hF]; exact Int.le_trans (Int.ediv_le_self _ (by omega)) (by omega)
    have hn0 : ((rd : Int) == 0) = false := beq_eq_false_iff_ne.2 (by omega)
    have HW := Lib.hid (wq64 hF hF0 hFb)
    rw [hrn, hrd]
    rw [hrn] at hr0 hr1
    rw [hrd] at hd0 hd1 hM
    have HS0 := Lib.hid (And.intro hrn hrd)
    have HF := Lib.hid hF
    have HBD := Lib.hid (And.intro hr0 (And.intro hr1 (And.intro hMb1 (And.intro hMb2 (And.intro hE1 (And.intro hE2 (And.intro hst2 (And.intro hFb (And.intro hF0 (And.intro hM hE))))))))))
    clear hF1 hs hT hst hl5 hTb hF hr0 hr1 hMb1 hMb2 hE1 hE2 hst2 hFb hF0 hM hE
    go_wp2_with fail
    (try rw [HW.out.1])
    (try rw [HW.out.2])
    go_wp2_with fail
    refine (downTime_impl _ _ pb lb Fq _ HSb_106.out hmb hcpb hcmb).mono ?_
    rintro e w107 ⟨he, hb⟩
    rw [HOz.out.1, HOz.out.2.1, HOz.out.2.2] at he
    subst he
    have HBx108 := Lib.hid (bthen HBx106.out hb HBx106.out.size)
    have HSb_108 := Lib.hid (spots_at HSb_106.out hb)
    clear hb
    obtain ⟨hr0, hr1, hMb1, hMb2, hE1, hE2, hst2, hFb, hF0, hM, hE⟩ := HBD.out
    go_wp2_with fail
    refine (totalD_impl _ _ pb lb _ HSb_108.out hmb).mono ?_
    rintro e w109 ⟨he, hb⟩
    rw [HT.out.1, HT.out.2] at he
    subst he
    have HBx110 := Lib.hid (bthen HBx108.out hb HBx108.out.size)
    have HSb_110 := Lib.hid (spots_at HSb_108.out hb)
    clear hb
    by_cases htp : 0 < t
    rotate_left
    · go_wp2_with fail
      exact HKK.out _ _ (tail22 rfl A n c w _ HRW.out HBx110.out _ _ _ _ _ _ _ _ _ _ _ _ _ _ _ _ _ _ _ _ _ _ _ _ _ _ _ _ _ _ _ _ _ _ _ _ _ _ _ _ _ _ _ _ _ _ _ _ _ _ _ _ _ _ _ _ _ _ _ _ _ _ _ _ _ _ _ _ _ _ _ _ _ _ _ _ _ _ _ _ _ _ _ _ _ _ _ _ _ _ _ _ _ _ _ _ _ _ _ _ _ _ _ _ _ _ _ _ _ _ _ _ _ _ _ _ _ _ _ _ _ _ _ _ _ _ _ _ _ _ _ _ _ _ _ _ _ _ _ _ _ _ _ _ _ _ _ _ _ _ _ _ _ _ _ _ _ _ _ _ _ _ _ _ _ _ _ _ _ _ _ _ _ _ _ _ _ _ _ _ _ _ _ _ _ _ _ _ _ _ _ _ _ _ _ _ _ _ _ _ _ _ _ _ _ _ _ _ _ _ _ _ _ _ _ _ _ _ _ _ _ _ _ _ _ _ _ _ _ _ _ _ _ _ _ _ _ _ _ _ _ _ _ _ _ _ _ _ _ _ _ _ _ _ _ _ _ _ _ _ _ _ _ _)
    obtain ⟨v, hv, hvle⟩ := da_less HEr.out htp
    have HOy : Hid (qN (daO lb (t - 1)) = v.num ∧ qD (daO lb (t - 1)) = v.den ∧ qK (daO lb (t - 1)) = true) := by rw [hv]; exact Lib.hid ⟨rfl, rfl, rfl⟩
    obtain ⟨⟨hv0, _⟩, hvd0, hvd1⟩ := da_range hv
    obtain ⟨vn, hvn⟩ : ∃ vn : Nat, v.num = vn := ⟨v.num.toNat, by omega⟩
    obtain ⟨vd, hvd⟩ : ∃ vd : Nat, v.den = vd := ⟨_, rfl⟩
    rw [HS0.out.1, HS0.out.2, HF.out, hvn, hvd] at hvle
    obtain ⟨Gq, hG⟩ : ∃ Gq : Int, (vn : Int) / (vd : Int) = Gq := ⟨_, rfl⟩
    rw [hG] at hvle
    have hG0 : 0 ≤ Gq := by rw [← hG]; exact Int.ediv_nonneg (by omega) (by omega)
    have hn1 : ((vd : Int) == 0) = false := beq_eq_false_iff_ne.2 (by omega)
    have hGb : Gq ≤ 9000000000000000000 := Int.le_trans hvle hFb
    have HW2 := Lib.hid (wq64 hG hG0 hGb)
    rw [hvn, hvd] at HOy
    rw [hvd] at hvd0 hvd1
    have HDL := Lib.hid (And.intro (show decide (Fq < Gq) = false from decide_eq_false (by omega)) (show decide ((vd : Int) < 1) = false from decide_eq_false (by omega)))
    clear hv hvle hG hG0 hGb hv0 hvn hvd hFb hF0
    go_wp2_with fail
    refine (depthAfter_impl _ _ pb lb (t - 1) _ HSb_110.out hmb hcpb hcmb).mono ?_
    rintro e w111 ⟨he, hb⟩
    rw [HOy.out.1, HOy.out.2.1, HOy.out.2.2] at he
    subst he
    have HBx112 := Lib.hid (bthen HBx110.out hb HBx110.out.size)
    have HSb_112 := Lib.hid (spots_at HSb_110.out hb)
    clear hb
    go_wp2_with fail
    obtain ⟨hdl, hdv⟩ := HDL.out
    have hw2 := HW.out.2
    have hw4 := HW2.out.2
    refine region_later (W := w111) (by kernel_rfl) (by kernel_rfl) (Below.refl _ _) ?_
    repeat (go_big_quiet_step (fail))
    refine wpQuiet_nil ?_
    intro W9 hW1
    have HL : Hid (Below w111.heap.size w111 W9) := by obtain ⟨x, rfl⟩ := hW1; exact Lib.hid x.below
    clear hW1
    have HB9 := Lib.hid (bthen HBx112.out HL.out HBx112.out.size)
    go_wp2_with fail
    exact HKK.out _ _ (tail22 rfl A n c w _ HRW.out HB9.out _ _ _ _ _ _ _ _ _ _ _ _ _ _ _ _ _ _ _ _ _ _ _ _ _ _ _ _ _ _ _ _ _ _ _ _ _ _ _ _ _ _ _ _ _ _ _ _ _ _ _ _ _ _ _ _ _ _ _ _ _ _ _ _ _ _ _ _ _ _ _ _ _ _ _ _ _ _ _ _ _ _ _ _ _ _ _ _ _ _ _ _ _ _ _ _ _ _ _ _ _ _ _ _ _ _ _ _ _ _ _ _ _ _ _ _ _ _ _ _ _ _ _ _ _ _ _ _ _ _ _ _ _ _ _ _ _ _ _ _ _ _ _ _ _ _ _ _ _ _ _ _ _ _ _ _ _ _ _ _ _ _ _ _ _ _ _ _ _ _ _ _ _ _ _ _ _ _ _ _ _ _ _ _ _ _ _ _ _ _ _ _ _ _ _ _ _ _ _ _ _ _ _ _ _ _ _ _ _ _ _ _ _ _ _ _ _ _ _ _ _ _ _ _ _ _ _ _ _ _ _ _ _ _ _ _ _ _ _ _ _ _ _ _ _ _ _ _ _ _ _ _ _ _ _ _ _ _ _ _ _ _ _ _)
set_option maxRecDepth 100000 in
theorem lifted (os : Os) (started : os.Started) (H : Type) (enc : TypeId × Value → H) :
    ReturnsInHanded {} Try.checked os 5 .any (Rows.fnDownTimesSpec.pre6 enc Try.prog Try.f5 Rows.fnDownTimesRow.domain false) (Rows.fnDownTimesSpec.post enc Try.prog Try.f5 false true false false) := by
  refine returnsInHanded_of_change (C := Try.checked) own started (by kernel_rfl) Try.func5
    (ChangeSpec.witness6 (enc := enc) (C := Try.checked) false ⟨#[], #[.slice none 0 0], []⟩ 8 (by kernel_rfl) (by kernel_rfl) (by kernel_rfl) (by kernel_rfl)) ?_
  intro W base args ds gs before hval0 hW hcnd _
  have hval : ∀ (j : Nat) t v, Try.f5.params[j]? = some t → args[j]? = some v → Value.okWide Try.prog W .any base t v := hval0
  have hW' := hW
  obtain ⟨p, q, hA0, hV, rfl, hfz, hnd⟩ := hW
  have hA : DataW.TrodAll enc Try.prog W 0 (fun _ => true) true Try.f5.params.toList args.toList ds p := hA0
  rw [Try.params5] at hA hval
  obtain ⟨v0, vs0, d0, ds0, p0, q0, hargs, rfl, rfl, h0, r0⟩ := trodAll_cons hA
  obtain ⟨rfl, rfl, rfl⟩ := trodAll_nil r0
  obtain rfl : args = #[v0] := by cases args; simp_all
  obtain ⟨rfl, rfl⟩ := trodVars_none hV
  have k0 := h0
  have lt0 : ∀ x ∈ p0, x.block < W.heap.size := by obtain ⟨m, hm⟩ := k0; exact DataW.trod_lt m _ _ _ hm
  obtain ⟨A0, n0, c0, rfl⟩ := okWide_slice Try.underlying22 (hval 0 22 v0 rfl rfl)
  obtain ⟨m0, w0⟩ := open_code h0
  clear hA0 hval0
  refine (walk A0 n0 c0 W m0 w0).mono fun e W1 ⟨he, bel⟩ => ?_
  subst he
  exact ⟨_, rfl, _, _, _, [], _, [], hW', trodAll_mk1 (shut_bool Try.underlying4 _), (trodAll_cons_mk (Below.trod laidOut (by kernel_rfl) (of_decide_eq_true (by kernel_rfl)) k0 bel lt0) trodAll_mk0), rfl, bel.frame _, fun h => by cases h⟩

/-- The statement. -/
theorem proved : Rows.FnDownTimesSaid :=
  OpenClaim.holds_of_wide 5 Try.f5 rfl rfl rfl rfl rfl rfl rfl ⟨rfl, rfl, rfl, rfl, rfl⟩ rfl rfl rfl rfl rfl (by kernel_rfl) Try.func5 (by kernel_rfl)
    (of_decide_eq_true (by kernel_rfl)) (by unfold Func.isWrapper; first | (rw [if_pos (by decide +kernel)]; kernel_rfl) | (rw [if_neg (by decide +kernel)]; exact ⟨rfl, rfl⟩))
    (fun os started H enc _ => lifted os started H enc)
#print axioms proved
end Go.Proofs.Ytdmnkmdlochogab.fnDownTimes
