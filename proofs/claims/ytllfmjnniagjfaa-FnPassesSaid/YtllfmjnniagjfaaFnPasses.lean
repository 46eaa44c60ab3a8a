/-
  Proved here: for every code the law laws.FnPasses returns true (lines that are planned are sailed or to repeat, minutes on lines are the busy ones, and the functions answer as the model), and the argument reads afterwards as before.
  Conditions: none beyond the row's own.
-/
import Derived.Test.YtllfmjnniagjfaaJz17
namespace Go.Proofs.Ytllfmjnniagjfaa.fnPasses
open Go.Joins Go.ChangeShapes Go.WideShapes Go.ChangeAt Go.RowKit Go.Deep
set_option linter.unusedVariables false

/-! ### The walk: the Go text returns true, and nothing that was there has turned. -/
set_option maxRecDepth 20000 in
set_option maxHeartbeats 12800000 in
theorem walk (A : Option Addr) (n c : Nat) (w : World) (hm : n ≤ maxLen) (hr : CodeRow w.heap.size A n w) :
    Calls Try.prog 3 #[.slice A n c] w fun e w' => e = .returned (.bool true) ∧ Below w.heap.size w w' := by
  rcases hb0 : decide ((65536 : Int) < n) with _ | _
  rotate_left
  · have HV := Lib.hid hb0
    clear hb0
    go_enter Try.func3, Try.ntmps3
    go_wp2_with fail
    refine (rBig_any _ _ _ _ HV.out _).mono ?_
    rintro e w' ⟨rfl, rfl⟩
    go_wp2_with fail
    go_ret
    exact ⟨rfl, Below.refl _ _⟩
  have HV := Lib.hid hb0
  have HRW := Lib.hid hr
  clear hb0 hr
  have HB0 := Lib.hid (Below.refl w.heap.size w)
  go_enter Try.func3, Try.ntmps3
  go_wp2_with fail
  refine (rBig_any _ _ _ _ HV.out _).mono ?_
  rintro e w' ⟨rfl, rfl⟩
  go_wp2_with fail
  refine (draw_rep A n c _ (HRW.out.below HB0.out HB0.out.size)).mono ?_
  rintro e w1 ⟨L, gb, cap, P, gp, cp, hpl, rfl, hP, hl1, hcap1, hcm1, hS, hb⟩
  have HS1 := Lib.hid hS
  have HP1 : Hid (IFun w1 0 w1.heap.size (some ⟨gp, 0, none⟩) P.length (fun j => P.getD j 0)) := Lib.hid (hP.wide (Nat.zero_le _) (Nat.le_refl _))
  have HB1 := Lib.hid (bthen HB0.out hb HB0.out.size)
  have hm1 : L.length ≤ maxLen := by unfold maxLen; omega
  clear hS hb hP
  obtain ⟨AA1, hAA⟩ : ∃ AA : Option Addr, AA = some ⟨gb, 0, none⟩ := ⟨_, rfl⟩
  rw [← hAA] at HS1 ⊢
  clear hAA
  obtain ⟨AP, hAP⟩ : ∃ AA : Option Addr, AA = some ⟨gp, 0, none⟩ := ⟨_, rfl⟩
  rw [← hAP] at HP1 ⊢
  clear hAP
  obtain ⟨R, HR⟩ : ∃ R, Hid (lrR L P = R) := ⟨_, Lib.hid rfl⟩
  obtain ⟨K, HK⟩ : ∃ K, Hid (lrK L P = K) := ⟨_, Lib.hid rfl⟩
  have hrl : R.length ≤ 31 := by rw [← HR.out]; have := lr_len (L := L) (P := P); omega
  go_wp2_with fail
  refine (repeat_impl _ _ _ L _ _ P _ HS1.out hm1 HP1.out (by omega)).mono ?_
  unfold LrPost IntsPost
  rw [HR.out, HK.out]
  rintro e w2 ⟨A2, c2, rfl, ho, hb⟩
  have HB2 := Lib.hid (bthen HB1.out hb HB1.out.size)
  have HS2 := Lib.hid (sds_atJ HS1.out hb)
  have HP2 := Lib.hid (ifun_at HP1.out hb)
  have HO2 := Lib.hid (ho.wide (Nat.zero_le _) (Nat.le_refl _))
  clear hb ho
  go_wp2_with fail
  refine (repeat_spec _ _ _ L _ _ P _ HS2.out hm1 HP2.out (by omega)).mono ?_
  unfold LrPost IntsPost
  rw [HR.out, HK.out]
  rintro e w3 ⟨A3, c3, rfl, ho, hb⟩
  have HB3 := Lib.hid (bthen HB2.out hb HB2.out.size)
  have HS3 := Lib.hid (sds_atJ HS2.out hb)
  have HP3 := Lib.hid (ifun_at HP2.out hb)
  have HO3 := Lib.hid (ifun_at HO2.out hb)
  have HW3 := Lib.hid ho
  clear hb ho
  go_wp2_with fail
  refine (rI_b _ _ _ _ _ _ _ _ _ _ _ HO3.out HW3.out (by omega)).mono ?_
  rintro e w4 ⟨rfl, hb⟩
  have HB4 := Lib.hid (bthen HB3.out hb HB3.out.size)
  have HS4 := Lib.hid (sds_atJ HS3.out hb)
  have HP4 := Lib.hid (ifun_at HP3.out hb)
  have HO4 := Lib.hid (ifun_at HO3.out hb)
  clear hb
  obtain ⟨Z, HZ⟩ : ∃ Z, Hid (pssB L = Z) := ⟨_, Lib.hid rfl⟩
  have hsl := sl_len L
  go_wp2_with fail
  refine (sailed_impl _ _ _ L _ HS4.out hm1).mono ?_
  unfold SlPost IntsPost
  rw [HZ.out]
  rintro e w5 ⟨A5, c5, rfl, ho, hb⟩
  have HB5 := Lib.hid (bthen HB4.out hb HB4.out.size)
  have HS5 := Lib.hid (sds_atJ HS4.out hb)
  have HP5 := Lib.hid (ifun_at HP4.out hb)
  have HO5 := Lib.hid (ifun_at HO4.out hb)
  have HT5 := Lib.hid (ho.wide (Nat.zero_le _) (Nat.le_refl _))
  clear hb ho
  go_wp2_with fail
  refine (sailed_spec _ _ _ L _ HS5.out hm1).mono ?_
  unfold SlPost IntsPost
  rw [HZ.out]
  rintro e w6 ⟨A6, c6, rfl, ho, hb⟩
  have HB6 := Lib.hid (bthen HB5.out hb HB5.out.size)
  have HS6 := Lib.hid (sds_atJ HS5.out hb)
  have HP6 := Lib.hid (ifun_at HP5.out hb)
  have HO6 := Lib.hid (ifun_at HO5.out hb)
  have HT6 := Lib.hid (ifun_at HT5.out hb)
  have HW6 := Lib.hid ho
  clear hb ho
  go_wp2_with fail
  refine (rI_b _ _ _ _ _ _ _ _ _ _ _ HT6.out HW6.out (by omega)).mono ?_
  rintro e w7 ⟨rfl, hb⟩
  have HB7 := Lib.hid (bthen HB6.out hb HB6.out.size)
  have HS7 := Lib.hid (sds_atJ HS6.out hb)
  have HP7 := Lib.hid (ifun_at HP6.out hb)
  have HO7 := Lib.hid (ifun_at HO6.out hb)
  have HT7 := Lib.hid (ifun_at HT6.out hb)
  clear hb
  go_wp2_with fail
  refine (pss_impl_v _ _ _ L _ HZ.out _ HS7.out hm1).mono ?_
  rintro e w8 ⟨rfl, hb⟩
  have HB8 := Lib.hid (bthen HB7.out hb HB7.out.size)
  have HS8 := Lib.hid (sds_atJ HS7.out hb)
  have HP8 := Lib.hid (ifun_at HP7.out hb)
  have HO8 := Lib.hid (ifun_at HO7.out hb)
  have HT8 := Lib.hid (ifun_at HT7.out hb)
  clear hb
  obtain ⟨W8, rfl⟩ : ∃ W : World, W = w8 := ⟨_, rfl⟩
  go_wp2_with fail
  rename (Act → World → Prop) => KK
  rename (∀ (a : Act) (w : World), _ → KK a w) => aK
  have HKK := Lib.hid aK
  clear aK
  go_loopw [13] (fun i wr => ∃ k : Nat, k ≤ P.length ∧ i = .int .i64 k ∧ Hid (Below W8.heap.size W8 wr)) (fun i _ => P.length - (intOf i).toNat)
  case atStart => exact ⟨0, Nat.zero_le _, rfl, Lib.hid (Below.refl _ _)⟩
  case round =>
    obtain ⟨k, hk, rfl, hB⟩ := hrel
    have HBT := Lib.hid (bthen HB8.out hB.out HB8.out.size)
    have HST := Lib.hid (sds_atJ HS8.out hB.out)
    have HTT := Lib.hid (ifun_at HT8.out hB.out)
    by_cases hlt : k < P.length
    rotate_left
    · go_wp2_with fail
      exact HKK.out _ _ (tailZ17 rfl A n c w _ HRW.out HBT.out _ _ _ _ _ L hl1 HST.out HTT.out _ _ _ _ _ _ _ _ _ _ _ _ _ _ _ _ _ _ _ _ _ _ _ _ _ _ _ _ _ _ _ _ _ _ _ _ _ _ _ _ _ _ _ _ _ _ _ _ _ _ _ _ _ _ _ _ _ _ _ _ _ _ _ _ _ _ _ _ _ _ _ _ _ _ _ _ _ _ _ _ _ _ _ _ _ _ _ _ _ _ _ _ _ _ _ _ _ _ _ _ _ _ _ _ _ _ _ _ _ _ _ _ _ _ _ _ _ _ _ _ _ _ _ _ _ _ _ _ _ _ _ _ _ _ _ _ _ _ _ _ _ _ _ _ _ _ _ _ _ _ _ _ _ _ _ _ _ _ _ _ _ _ _ _ _ _ _ _ _ _ _ _ _ _ _ _ _ _ _ _ _ _ _ _ _ _ _ _ _ _ _ _ _ _ _ _ _ _ _ _ _ _ _ _ _ _ _ _ _ _ _ _ _ _ _ _ _ _ _ _ _ _ _ _ _ _ _ _ _ _ _ _ _ _ _ _ _ _ _ _ _ _ _)
    rcases K with _ | _
    · go_wp2_with fail
      exact HKK.out _ _ (tailZ17 rfl A n c w _ HRW.out HBT.out _ _ _ _ _ L hl1 HST.out HTT.out _ _ _ _ _ _ _ _ _ _ _ _ _ _ _ _ _ _ _ _ _ _ _ _ _ _ _ _ _ _ _ _ _ _ _ _ _ _ _ _ _ _ _ _ _ _ _ _ _ _ _ _ _ _ _ _ _ _ _ _ _ _ _ _ _ _ _ _ _ _ _ _ _ _ _ _ _ _ _ _ _ _ _ _ _ _ _ _ _ _ _ _ _ _ _ _ _ _ _ _ _ _ _ _ _ _ _ _ _ _ _ _ _ _ _ _ _ _ _ _ _ _ _ _ _ _ _ _ _ _ _ _ _ _ _ _ _ _ _ _ _ _ _ _ _ _ _ _ _ _ _ _ _ _ _ _ _ _ _ _ _ _ _ _ _ _ _ _ _ _ _ _ _ _ _ _ _ _ _ _ _ _ _ _ _ _ _ _ _ _ _ _ _ _ _ _ _ _ _ _ _ _ _ _ _ _ _ _ _ _ _ _ _ _ _ _ _ _ _ _ _ _ _ _ _ _ _ _ _ _ _ _ _ _ _ _ _ _ _ _ _ _ _)
    have HOT := Lib.hid (ifun_at HO8.out hB.out)
    obtain ⟨g, rfl, _, _, d0, _⟩ := (ifun_at HP8.out hB.out) k hlt
    have hor := (lr_told HK.out).2 k hlt
    obtain ⟨y, hy⟩ : ∃ y, P.getD k 0 = y := ⟨_, rfl⟩
    dsimp only at d0
    rw [hy] at d0 hor
    rw [HR.out] at hor
    clear hy
    obtain ⟨W0, rfl⟩ : ∃ W : World, W = wr := ⟨_, rfl⟩
    by_cases hin : y ∈ slR L
    · have HR1 : Hid (decide (y ∈ R) = false) := Lib.hid (decide_eq_false fun h => hor.1 h hin)
      have HR2 : Hid (decide (y ∈ slR L) = true) := Lib.hid (decide_eq_true hin)
      clear hor hin
      go_wp2_with fail
      have lc0 := lcell (d0)
      refine region_later (W := W0) (by kernel_rfl) (by kernel_rfl) (Below.refl _ _) ?_
      repeat (go_big_quiet_step (((first | (go_at_call 23; with_reducible exact later_same (rHas_v A2 _ _ _ _ R y _ HR1.out _ (HOT.out.on (Later.below _) (Nat.le_refl _)) rfl (by omega))) | (go_at_call 23; with_reducible exact later_same (rHas_v A5 _ _ _ _ (slR L) y _ HR2.out _ (HTT.out.on (Later.below _) (Nat.le_refl _)) rfl (by omega)))))))
      refine wpQuiet_nil ?_
      intro W6 hW1
      have HL : Hid (Below W0.heap.size W0 W6) := by obtain ⟨x, rfl⟩ := hW1; exact Lib.hid x.below
      clear hW1 lc0
      have HB9 := Lib.hid (bthen hB.out HL.out hB.out.size)
      clear d0
      go_wp2_with fail
      go_roundw
      case rel => exact ⟨k + 1, by omega, by go_num, HB9⟩
      case measure => simp [intOf]; omega
    · have HR1 : Hid (decide (y ∈ R) = true) := Lib.hid (decide_eq_true (hor.2 hin))
      have HR2 : Hid (decide (y ∈ slR L) = false) := Lib.hid (decide_eq_false hin)
      clear hor hin
      go_wp2_with fail
      have lc0 := lcell (d0)
      refine region_later (W := W0) (by kernel_rfl) (by kernel_rfl) (Below.refl _ _) ?_
      repeat (go_big_quiet_step (((first | (go_at_call 23; with_reducible exact later_same (rHas_v A2 _ _ _ _ R y _ HR1.out _ (HOT.out.on (Later.below _) (Nat.le_refl _)) rfl (by omega))) | (go_at_call 23; with_reducible exact later_same (rHas_v A5 _ _ _ _ (slR L) y _ HR2.out _ (HTT.out.on (Later.below _) (Nat.le_refl _)) rfl (by omega)))))))
      refine wpQuiet_nil ?_
      intro W6 hW1
      have HL : Hid (Below W0.heap.size W0 W6) := by obtain ⟨x, rfl⟩ := hW1; exact Lib.hid x.below
      clear hW1 lc0
      have HB9 := Lib.hid (bthen hB.out HL.out hB.out.size)
      clear d0
      go_wp2_with fail
      go_roundw
      case rel => exact ⟨k + 1, by omega, by go_num, HB9⟩
      case measure => simp [intOf]; omega
set_option maxRecDepth 100000 in
theorem lifted (os : Os) (started : os.Started) (H : Type) (enc : TypeId × Value → H) :
    ReturnsInHanded {} Try.checked os 3 .any (Rows.fnPassesSpec.pre6 enc Try.prog Try.f3 Rows.fnPassesRow.domain false) (Rows.fnPassesSpec.post enc Try.prog Try.f3 false true false false) := by
  refine returnsInHanded_of_change (C := Try.checked) own started (by kernel_rfl) Try.func3
    (ChangeSpec.witness6 (enc := enc) (C := Try.checked) false ⟨#[], #[.slice none 0 0], []⟩ 8 (by kernel_rfl) (by kernel_rfl) (by kernel_rfl) (by kernel_rfl)) ?_
  intro W base args ds gs before hval0 hW hcnd _
  have hval : ∀ (j : Nat) t v, Try.f3.params[j]? = some t → args[j]? = some v → Value.okWide Try.prog W .any base t v := hval0
  have hW' := hW
  obtain ⟨p, q, hA0, hV, rfl, hfz, hnd⟩ := hW
  have hA : DataW.TrodAll enc Try.prog W 0 (fun _ => true) true Try.f3.params.toList args.toList ds p := hA0
  rw [Try.params3] at hA hval
  obtain ⟨v0, vs0, d0, ds0, p0, q0, hargs, rfl, rfl, h0, r0⟩ := trodAll_cons hA
  obtain ⟨rfl, rfl, rfl⟩ := trodAll_nil r0
  obtain rfl : args = #[v0] := by cases args; simp_all
  obtain ⟨rfl, rfl⟩ := trodVars_none hV
  have k0 := h0
  have lt0 : ∀ x ∈ p0, x.block < W.heap.size := by obtain ⟨m, hm⟩ := k0; exact DataW.trod_lt m _ _ _ hm
  obtain ⟨A0, n0, c0, rfl⟩ := okWide_slice Try.underlying22 (hval 0 22 v0 rfl rfl)
  obtain ⟨m0, w0⟩ := open_code h0
  clear hA0 hval0
  refine (walk A0 n0 c0 W m0 w0).mono fun e W1 ⟨he, bel⟩ => ?_
  subst he
  exact ⟨_, rfl, _, _, _, [], _, [], hW', trodAll_mk1 (shut_bool Try.underlying4 _), (trodAll_cons_mk (Below.trod laidOut (by kernel_rfl) (of_decide_eq_true (by kernel_rfl)) k0 bel lt0) trodAll_mk0), rfl, bel.frame _, fun h => by cases h⟩

/-- The statement. -/
theorem proved : Rows.FnPassesSaid :=
  OpenClaim.holds_of_wide 3 Try.f3 rfl rfl rfl rfl rfl rfl rfl ⟨rfl, rfl, rfl, rfl, rfl⟩ rfl rfl rfl rfl rfl (by kernel_rfl) Try.func3 (by kernel_rfl)
    (of_decide_eq_true (by kernel_rfl)) (by unfold Func.isWrapper; first | (rw [if_pos (by decide +kernel)]; kernel_rfl) | (rw [if_neg (by decide +kernel)]; exact ⟨rfl, rfl⟩))
    (fun os started H enc _ => lifted os started H enc)
#print axioms proved
end Go.Proofs.Ytllfmjnniagjfaa.fnPasses
