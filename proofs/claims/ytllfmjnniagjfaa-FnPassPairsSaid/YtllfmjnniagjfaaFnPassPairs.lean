/-
  Proved here: for every code the law laws.FnPassPairs returns true (opposite passes are of the line, no break is longer than the longest, a pass that is put is there, and the functions answer as the model), and the argument reads afterwards as before.
  Conditions: none beyond the row's own.
-/
import Derived.Test.YtllfmjnniagjfaaJv13
namespace Go.Proofs.Ytllfmjnniagjfaa.fnPassPairs
open Go.Joins Go.ChangeShapes Go.WideShapes Go.ChangeAt Go.RowKit Go.Deep
set_option linter.unusedVariables false

/-! ### The walk: the Go text returns true, and nothing that was there has turned. -/
set_option maxRecDepth 20000 in
set_option maxHeartbeats 12800000 in
theorem walk (A : Option Addr) (n c : Nat) (w : World) (hm : n ≤ maxLen) (hr : CodeRow w.heap.size A n w) :
    Calls Try.prog 4 #[.slice A n c] w fun e w' => e = .returned (.bool true) ∧ Below w.heap.size w w' := by
  rcases hb0 : decide ((65536 : Int) < n) with _ | _
  rotate_left
  · have HV := Lib.hid hb0
    clear hb0
    go_enter Try.func4, Try.ntmps4
    go_wp2_with fail
    refine (rBig_any _ _ _ _ HV.out _).mono ?_
    rintro e w' ⟨rfl, rfl⟩
    go_wp2_with fail
    go_ret
    exact ⟨rfl, Below.refl _ _⟩
  have HV := Lib.hid hb0
  have HRW := Lib.hid hr
  clear hb0 hr
  have HB0 := Lib.hid (Below.refl w.heap.size w)
  go_enter Try.func4, Try.ntmps4
  go_wp2_with fail
  refine (rBig_any _ _ _ _ HV.out _).mono ?_
  rintro e w' ⟨rfl, rfl⟩
  go_wp2_with fail
  refine (draw_opp A n c _ (HRW.out.below HB0.out HB0.out.size)).mono ?_
  rintro e w1 ⟨L, gb, cap, l, rfl, hl1, hcap1, hcm1, hS, hb⟩
  have HS1 := Lib.hid hS
  have HB1 := Lib.hid (bthen HB0.out hb HB0.out.size)
  have hm1 : L.length ≤ maxLen := by unfold maxLen; omega
  clear hS hb
  obtain ⟨AA1, hAA⟩ : ∃ AA : Option Addr, AA = some ⟨gb, 0, none⟩ := ⟨_, rfl⟩
  rw [← hAA] at HS1 ⊢
  clear hAA
  obtain ⟨K, HK⟩ : ∃ K, Hid (opK9 L l = K) := ⟨_, Lib.hid rfl⟩
  have hrl := opR9_len L l
  go_wp2_with fail
  refine (opposite_impl _ _ _ L l _ HS1.out hm1).mono ?_
  unfold OpPost RowsPost
  rw [HK.out]
  rintro e w2 ⟨A2, c2, G2, rfl, ho, hb⟩
  have HB2 := Lib.hid (bthen HB1.out hb HB1.out.size)
  have HS2 := Lib.hid (sds_atJ HS1.out hb)
  have HO2 := Lib.hid ho
  clear hb ho
  go_wp2_with fail
  refine (opposite_spec _ _ _ L l _ HS2.out hm1).mono ?_
  unfold OpPost RowsPost
  rw [HK.out]
  rintro e w3 ⟨A3, c3, G3, rfl, ho, hb⟩
  have HB3 := Lib.hid (bthen HB2.out hb HB2.out.size)
  have HS3 := Lib.hid (sds_atJ HS2.out hb)
  have HO3 := Lib.hid (HO2.out.on hb (Nat.le_refl _))
  have HZ3 := Lib.hid hb.size
  have HW3 := Lib.hid ho
  clear hb ho
  go_wp2_with fail
  refine (rT_same _ _ _ _ _ _ _ _ _ _ _ _ _ HO3.out HW3.out HZ3.out (Nat.le_refl _) (by omega)).mono ?_
  rintro e w4 ⟨rfl, hb⟩
  have HB4 := Lib.hid (bthen HB3.out hb HB3.out.size)
  have HS4 := Lib.hid (sds_atJ HS3.out hb)
  have HO4 := Lib.hid (HO3.out.on hb HZ3.out)
  have HZ4 := Lib.hid (Nat.le_trans HZ3.out hb.size)
  clear hb
  obtain ⟨W4, rfl⟩ : ∃ W : World, W = w4 := ⟨_, rfl⟩
  go_wp2_with fail
  rename (Act → World → Prop) => KK
  rename (∀ (a : Act) (w : World), _ → KK a w) => aK
  have HKK := Lib.hid aK
  clear aK
  go_loopw [9] (fun i wr => ∃ k : Nat, k ≤ (opR9 L l).length ∧ i = .int .i64 k ∧ Hid (Below W4.heap.size W4 wr)) (fun i _ => (opR9 L l).length - (intOf i).toNat)
  case atStart => exact ⟨0, Nat.zero_le _, rfl, Lib.hid (Below.refl _ _)⟩
  case round =>
    obtain ⟨k, hk, rfl, hB⟩ := hrel
    have HBT := Lib.hid (bthen HB4.out hB.out HB4.out.size)
    by_cases hlt : k < (opR9 L l).length
    rotate_left
    · go_wp2_with fail
      exact HKK.out _ _ (tailV13 rfl A n c w _ HRW.out HBT.out _ _ _ _ _ _ _ _ _ _ _ _ _ _ _ _ _ _ _ _ _ _ _ _ _ _ _ _ _ _ _ _ _ _ _ _ _ _ _ _ _ _ _ _ _ _ _ _ _ _ _ _ _ _ _ _ _ _ _ _ _ _ _ _ _ _ _ _ _ _ _ _ _ _ _ _ _ _ _ _ _ _ _ _ _ _ _ _ _ _ _ _ _ _ _ _ _ _ _ _ _ _ _ _ _ _ _ _ _ _ _ _ _ _ _ _ _ _ _ _ _ _ _ _ _ _ _ _ _ _ _ _ _ _ _ _ _ _ _ _ _ _ _ _ _ _ _ _ _ _ _ _ _ _ _ _ _ _ _ _ _ _ _ _ _ _ _ _ _ _ _ _ _ _ _ _ _ _ _ _ _ _ _ _ _ _ _ _ _ _ _ _ _ _ _ _ _ _ _ _ _ _ _ _ _ _ _ _ _ _ _ _ _ _ _ _ _ _ _ _ _ _ _ _ _ _ _ _ _ _ _ _ _ _ _ _ _ _ _ _ _ _)
    obtain ⟨g, gk, rfl, _, _, _, _, _, _, e0, hI⟩ := (HO4.out.on hB.out HZ4.out).2.2 k hlt
    obtain ⟨ga, ha, _, _, d0, _⟩ := hI 0 (by omega)
    obtain ⟨gb2, hb2, _, _, d1, _⟩ := hI 1 (by omega)
    obtain rfl : gk = ga := by injection ha with h; injection h
    obtain rfl : gk = gb2 := by injection hb2 with h; injection h
    obtain ⟨i, j, hpi, hpj, hil, hjl, hli, hlj⟩ := op_at hlt
    rw [hpi] at d0
    rw [hpj] at d1
    obtain ⟨b', o', u, rfl, hbl, hL1, p0, _⟩ := (sds_atJ HS4.out hB.out).2 i hil
    obtain ⟨b2, o2, v, hA', _, hL2, q0, _⟩ := (sds_atJ HS4.out hB.out).2 j hjl
    obtain ⟨rfl, rfl⟩ : b' = b2 ∧ o' = o2 := by injection hA' with h; injection h with h h'; exact ⟨h, h'⟩
    rw [psAt_at hL1] at hli
    rw [psAt_at hL2] at hlj
    rw [hli] at p0
    rw [hlj] at q0
    clear ha hb2 hI hpi hpj hli hlj hL1 hL2 hA'
    have hb9 := hB
    go_wp2_with fail
    go_roundw
    case rel => exact ⟨k + 1, by omega, by go_num, hb9⟩
    case measure => simp [intOf]; omega
set_option maxRecDepth 100000 in
theorem lifted (os : Os) (started : os.Started) (H : Type) (enc : TypeId × Value → H) :
    ReturnsInHanded {} Try.checked os 4 .any (Rows.fnPassPairsSpec.pre6 enc Try.prog Try.f4 Rows.fnPassPairsRow.domain false) (Rows.fnPassPairsSpec.post enc Try.prog Try.f4 false true false false) := by
  refine returnsInHanded_of_change (C := Try.checked) own started (by kernel_rfl) Try.func4
    (ChangeSpec.witness6 (enc := enc) (C := Try.checked) false ⟨#[], #[.slice none 0 0], []⟩ 8 (by kernel_rfl) (by kernel_rfl) (by kernel_rfl) (by kernel_rfl)) ?_
  intro W base args ds gs before hval0 hW hcnd _
  have hval : ∀ (j : Nat) t v, Try.f4.params[j]? = some t → args[j]? = some v → Value.okWide Try.prog W .any base t v := hval0
  have hW' := hW
  obtain ⟨p, q, hA0, hV, rfl, hfz, hnd⟩ := hW
  have hA : DataW.TrodAll enc Try.prog W 0 (fun _ => true) true Try.f4.params.toList args.toList ds p := hA0
  rw [Try.params4] at hA hval
  obtain ⟨v0, vs0, d0, ds0, p0, q0, hargs, rfl, rfl, h0, r0⟩ := trodAll_cons hA
  obtain ⟨rfl, rfl, rfl⟩ := trodAll_nil r0
  obtain rfl : args = #[v0] := by cases args; simp_all
  obtain ⟨rfl, rfl⟩ := trodVars_none hV
  have k0 := h0
  have lt0 : ∀ x ∈ p0, x.block < W.heap.size := by obtain ⟨m, hm⟩ := k0; exact DataW.trod_lt m _ _ _ hm
  obtain ⟨A0, n0, c0, rfl⟩ := okWide_slice Try.underlying22 (hval 0 22 v0 rfl rfl)
  obtain ⟨m0, w0⟩ := open_code h0
  clear hA0 hval0
  refine (walk A0 n0 c0 W m0 w0).mono fun e W1 ⟨he, bel⟩ => ?_
  subst he
  exact ⟨_, rfl, _, _, _, [], _, [], hW', trodAll_mk1 (shut_bool Try.underlying4 _), (trodAll_cons_mk (Below.trod laidOut (by kernel_rfl) (of_decide_eq_true (by kernel_rfl)) k0 bel lt0) trodAll_mk0), rfl, bel.frame _, fun h => by cases h⟩

/-- The statement. -/
theorem proved : Rows.FnPassPairsSaid :=
  OpenClaim.holds_of_wide 4 Try.f4 rfl rfl rfl rfl rfl rfl rfl ⟨rfl, rfl, rfl, rfl, rfl⟩ rfl rfl rfl rfl rfl (by kernel_rfl) Try.func4 (by kernel_rfl)
    (of_decide_eq_true (by kernel_rfl)) (by unfold Func.isWrapper; first | (rw [if_pos (by decide +kernel)]; kernel_rfl) | (rw [if_neg (by decide +kernel)]; exact ⟨rfl, rfl⟩))
    (fun os started H enc _ => lifted os started H enc)
#print axioms proved
end Go.Proofs.Ytllfmjnniagjfaa.fnPassPairs
