/-
  Proved here: for every slice of passes the law laws.FnExactSailedLines returns true (impl.SailedLines answers as spec.SailedLines, writes into no argument, and its answer owns its memory), and the arguments read afterwards as before.
  Conditions: none beyond the row's own.
-/
import Derived.Test.YtllfmjnniagjfaaJl
import Derived.Test.YtllfmjnniagjfaaJm
import Derived.Test.YtllfmjnniagjfaaJb
import Derived.Test.YtllfmjnniagjfaaIi
import Derived.Test.YtllfmjnniagjfaaFb
namespace Go.Proofs.Ytllfmjnniagjfaa.fnExactSailedLines
open Go.Joins Go.ChangeShapes Go.WideShapes Go.ChangeAt Go.RowKit Go.Deep
set_option linter.unusedVariables false

/-! ### The walk: the Go text returns true, and nothing that was there has turned. -/
theorem _root_.Go.Proofs.Ytllfmjnniagjfaa.IFun.farB9 {w w' : World} {lo hi lo' hi' n : Nat} {A : Option Addr} {f : Nat → Int} (h : IFun w lo hi A n f) (hf : FarB lo' hi' w w') (hs : hi ≤ w.heap.size) (hd : hi ≤ lo' ∨ hi' ≤ lo) : IFun w' lo hi A n f := fun k hk => by
  obtain ⟨g, hA, h1, h2, hc, hz⟩ := h k hk
  have hb := hf.block g (by omega) (by omega)
  exact ⟨g, hA, h1, h2, (World.cell?_of_block (a := ⟨g, _, none⟩) hb).trans hc, (World.frozen?_of_block (a := ⟨g, _, none⟩) hb).trans hz⟩
theorem slR_len (L : List PS) : (slR L).length ≤ L.length := by
  unfold slR
  split
  · exact sdL_len L L.length
  · simp
set_option maxRecDepth 20000 in
set_option maxHeartbeats 6400000 in
theorem walk (A : Option Addr) (n c : Nat) (L : List PS) (w : World) (hs : SdsJ w w.heap.size A n L) (hm : n ≤ maxLen) :
    Calls Try.prog 10 #[.slice A n c] w fun z w' => z = .returned (.bool true) ∧ Below w.heap.size w w' := by
  by_cases h0 : n ≤ 1048576
  · obtain rfl := hs.1
    have HS := Lib.hid hs
    have HSZ := Lib.hid h0
    have HLN : Hid (L.length ≤ 1048576) := Lib.hid (by omega)
    have hle : 0 ≤ (1048576 : Int) - L.length := by omega
    have hk1 := slR_len L
    have HN : Hid ((slR L).length ≤ 1048576) := Lib.hid (by omega)
    clear hs h0
    have HB0 := Lib.hid (Below.refl w.heap.size w)
    go_enter Try.func10, Try.ntmps10
    go_wp2_with fail
    refine (szS_posJ A _ c _ _ (by omega) (by omega)).mono ?_
    rintro z w' ⟨rfl, rfl⟩
    go_wp2_with fail
    refine (copySs_anyJ A _ c L _ (sds_atJ HS.out HB0.out) HSZ.out).mono ?_
    rintro z w1 ⟨g1, rfl, hF, hb⟩
    have HZ0 := Lib.hid hb.size
    have HB1 := Lib.hid (bthen HB0.out hb HB0.out.size)
    have HCs := Lib.hid (sds_of_fillJ hF rfl)
    clear hF hb
    go_wp2_with fail
    refine (sailed_spec _ _ _ L _ HCs.out hm).mono ?_
    rintro z w2 ⟨AS, cS, rfl, hO, hb⟩
    have HZ1 := Lib.hid hb.size
    have HB2 := Lib.hid (bthen HB1.out hb HB1.out.size)
    have Hs_1 := Lib.hid (sds_atJ HCs.out hb)
    have HRS := Lib.hid hO
    clear hO
    clear hb
    go_wp2_with fail
    refine (copySs_anyJ A _ c L _ (sds_atJ HS.out HB2.out) HSZ.out).mono ?_
    rintro z w3 ⟨g3, rfl, hF, hb⟩
    have HZ2 := Lib.hid hb.size
    have HB3 := Lib.hid (bthen HB2.out hb HB2.out.size)
    have HS_2 := Lib.hid (HRS.out.on hb (Nat.le_refl _))
    have HCx := Lib.hid (sds_of_fillJ hF rfl)
    have HCxo := Lib.hid (ownS_of_fillJ hF rfl)
    clear hF hb
    go_wp2_with fail
    refine (sailed_impl _ _ _ L _ HCx.out hm).mono ?_
    rintro z w4 ⟨AG, cG, rfl, hO, hb⟩
    have HZ3 := Lib.hid hb.size
    have HB4 := Lib.hid (bthen HB3.out hb HB3.out.size)
    have HS_3 := Lib.hid (HS_2.out.on hb (by have z2 := HZ2.out; omega))
    have Hx_4 := Lib.hid (sds_atJ HCx.out hb)
    have Hxo_5 := Lib.hid (HCxo.out.on hb (Nat.le_refl _))
    have HRG := Lib.hid hO
    clear hO
    clear hb
    go_wp2_with fail
    refine (eqI_same _ _ _ _ _ _ _ _ _ _ _ HRG.out HS_3.out HN.out).mono ?_
    rintro z w5 ⟨rfl, dk, hdk⟩
    have hb : Below w4.heap.size w4 w5 := by rw [hdk]; exact bdrewN (Below.refl _ _) _
    clear hdk
    have HZ4 := Lib.hid hb.size
    have HB5 := Lib.hid (bthen HB4.out hb HB4.out.size)
    have HS_6 := Lib.hid (HS_3.out.on hb (by have z2 := HZ2.out; have z3 := HZ3.out; omega))
    have Hx_7 := Lib.hid (sds_atJ Hx_4.out hb)
    have Hxo_8 := Lib.hid (Hxo_5.out.on hb (by have z3 := HZ3.out; omega))
    have HG_9 := Lib.hid (HRG.out.on hb (Nat.le_refl _))
    clear hb
    go_wp2_with fail
    refine (copySs_anyJ A _ c L _ (sds_atJ HS.out HB5.out) HSZ.out).mono ?_
    rintro z w6 ⟨g6, rfl, hF, hb⟩
    have HZ5 := Lib.hid hb.size
    have HB6 := Lib.hid (bthen HB5.out hb HB5.out.size)
    have HS_10 := Lib.hid (HS_6.out.on hb (by have z2 := HZ2.out; have z3 := HZ3.out; have z4 := HZ4.out; omega))
    have Hx_11 := Lib.hid (sds_atJ Hx_7.out hb)
    have Hxo_12 := Lib.hid (Hxo_8.out.on hb (by have z3 := HZ3.out; have z4 := HZ4.out; omega))
    have HG_13 := Lib.hid (HG_9.out.on hb (by have z4 := HZ4.out; omega))
    have HCy := Lib.hid (sds_of_fillJ hF rfl)
    clear hF hb
    go_wp2_with fail
    refine (eqSs_sameJ _ _ _ _ _ L _ Hx_11.out HCy.out hm).mono ?_
    rintro z w7 ⟨rfl, hb⟩
    have HZ6 := Lib.hid hb.size
    have HB7 := Lib.hid (bthen HB6.out hb HB6.out.size)
    have HS_14 := Lib.hid (HS_10.out.on hb (by have z2 := HZ2.out; have z3 := HZ3.out; have z4 := HZ4.out; have z5 := HZ5.out; omega))
    have Hx_15 := Lib.hid (sds_atJ Hx_11.out hb)
    have Hxo_16 := Lib.hid (Hxo_12.out.on hb (by have z3 := HZ3.out; have z4 := HZ4.out; have z5 := HZ5.out; omega))
    have HG_17 := Lib.hid (HG_13.out.on hb (by have z4 := HZ4.out; have z5 := HZ5.out; omega))
    have Hy_18 := Lib.hid (sds_atJ HCy.out hb)
    clear hb
    go_wp2_with fail
    refine (markS_posJ _ _ _ _ _ _ _ Hxo_16.out HLN.out).mono ?_
    rintro z w8 ⟨⟨m, rfl, hmm⟩, hf⟩
    have hb : Below w2.heap.size w7 w8 := hf.below (Nat.le_refl _) (by have z2 := HZ2.out; have z3 := HZ3.out; have z4 := HZ4.out; have z5 := HZ5.out; have z6 := HZ6.out; omega)
    have HZ7 := Lib.hid hf.size
    have HB8 := Lib.hid (HB7.out.trans (hb.mono HB2.out.size))
    have HS_19 := Lib.hid (HS_14.out.farB9 hf (by have z2 := HZ2.out; have z3 := HZ3.out; have z4 := HZ4.out; have z5 := HZ5.out; have z6 := HZ6.out; omega) (.inl (Nat.le_refl _)))
    have HG_20 := Lib.hid (HG_17.out.farB9 hf (by have z4 := HZ4.out; have z5 := HZ5.out; have z6 := HZ6.out; omega) (.inr (Nat.le_refl _)))
    clear hb hf
    go_wp2_with fail
    refine (eqI_same _ _ _ _ _ _ _ _ _ _ _ HG_20.out HS_19.out HN.out).mono ?_
    rintro z w9 ⟨rfl, dk, hdk⟩
    have hb : Below w8.heap.size w8 w9 := by rw [hdk]; exact bdrewN (Below.refl _ _) _
    clear hdk
    have HZ8 := Lib.hid hb.size
    have HB9 := Lib.hid (bthen HB8.out hb HB8.out.size)
    have HS_21 := Lib.hid (HS_19.out.on hb (by have z2 := HZ2.out; have z3 := HZ3.out; have z4 := HZ4.out; have z5 := HZ5.out; have z6 := HZ6.out; have z7 := HZ7.out; omega))
    have HG_22 := Lib.hid (HG_20.out.on hb (by have z4 := HZ4.out; have z5 := HZ5.out; have z6 := HZ6.out; have z7 := HZ7.out; omega))
    clear hb
    go_wp2_with fail
    refine (markI_any _ _ _ _ _ _ _ HG_22.out HN.out).mono ?_
    rintro z w10 ⟨rfl, hO, hf⟩
    have hb : Below w3.heap.size w9 w10 := hf.below (Nat.le_refl _) (by have z3 := HZ3.out; have z4 := HZ4.out; have z5 := HZ5.out; have z6 := HZ6.out; have z7 := HZ7.out; have z8 := HZ8.out; omega)
    have HZ9 := Lib.hid (Nat.le_of_eq hf.size.symm)
    have HB10 := Lib.hid (HB9.out.trans (hb.mono HB3.out.size))
    have HS_23 := Lib.hid (HS_21.out.far hf (by have z2 := HZ2.out; have z3 := HZ3.out; have z4 := HZ4.out; have z5 := HZ5.out; have z6 := HZ6.out; have z7 := HZ7.out; have z8 := HZ8.out; omega) (.inl (by have z2 := HZ2.out; omega)))
    have HMK := Lib.hid hO
    clear hb hf hO
    go_wp2_with fail
    refine (heldI_any _ _ _ _ _ _ HMK.out HN.out).mono ?_
    rintro z w' ⟨rfl, rfl⟩
    go_wp2_with fail
    refine (copySs_anyJ A _ c L _ (sds_atJ HS.out HB10.out) HSZ.out).mono ?_
    rintro z w11 ⟨g11, rfl, hF, hb⟩
    have HZ10 := Lib.hid hb.size
    have HB11 := Lib.hid (bthen HB10.out hb HB10.out.size)
    have HS_24 := Lib.hid (HS_23.out.on hb (by have z2 := HZ2.out; have z3 := HZ3.out; have z4 := HZ4.out; have z5 := HZ5.out; have z6 := HZ6.out; have z7 := HZ7.out; have z8 := HZ8.out; have z9 := HZ9.out; omega))
    have HG_25 := Lib.hid (HMK.out.on hb (by have z4 := HZ4.out; have z5 := HZ5.out; have z6 := HZ6.out; have z7 := HZ7.out; have z8 := HZ8.out; have z9 := HZ9.out; omega))
    have HCy := Lib.hid (sds_of_fillJ hF rfl)
    clear hF hb
    go_wp2_with fail
    refine (sailed_impl _ _ _ L _ HCy.out hm).mono ?_
    rintro z w12 ⟨AH, cH, rfl, hO, hb⟩
    have HZ11 := Lib.hid hb.size
    have HB12 := Lib.hid (bthen HB11.out hb HB11.out.size)
    have HS_26 := Lib.hid (HS_24.out.on hb (by have z2 := HZ2.out; have z3 := HZ3.out; have z4 := HZ4.out; have z5 := HZ5.out; have z6 := HZ6.out; have z7 := HZ7.out; have z8 := HZ8.out; have z9 := HZ9.out; have z10 := HZ10.out; omega))
    have HG_27 := Lib.hid (HG_25.out.on hb (by have z4 := HZ4.out; have z5 := HZ5.out; have z6 := HZ6.out; have z7 := HZ7.out; have z8 := HZ8.out; have z9 := HZ9.out; have z10 := HZ10.out; omega))
    have Hy_28 := Lib.hid (sds_atJ HCy.out hb)
    have HRH := Lib.hid hO
    clear hO
    clear hb
    go_wp2_with fail
    refine (eqI_same _ _ _ _ _ _ _ _ _ _ _ HRH.out HS_26.out HN.out).mono ?_
    rintro z w13 ⟨rfl, dk, hdk⟩
    have hb : Below w12.heap.size w12 w13 := by rw [hdk]; exact bdrewN (Below.refl _ _) _
    clear hdk
    have HZ12 := Lib.hid hb.size
    have HB13 := Lib.hid (bthen HB12.out hb HB12.out.size)
    have HS_29 := Lib.hid (HS_26.out.on hb (by have z2 := HZ2.out; have z3 := HZ3.out; have z4 := HZ4.out; have z5 := HZ5.out; have z6 := HZ6.out; have z7 := HZ7.out; have z8 := HZ8.out; have z9 := HZ9.out; have z10 := HZ10.out; have z11 := HZ11.out; omega))
    have HG_30 := Lib.hid (HG_27.out.on hb (by have z4 := HZ4.out; have z5 := HZ5.out; have z6 := HZ6.out; have z7 := HZ7.out; have z8 := HZ8.out; have z9 := HZ9.out; have z10 := HZ10.out; have z11 := HZ11.out; omega))
    have HH_31 := Lib.hid (HRH.out.on hb (Nat.le_refl _))
    clear hb
    go_wp2_with fail
    refine (heldI_any _ _ _ _ _ _ HG_30.out HN.out).mono ?_
    rintro z w' ⟨rfl, rfl⟩
    go_wp2_with fail
    go_ret
    exact ⟨rfl, HB13.out⟩
  · go_enter Try.func10, Try.ntmps10
    go_wp2_with fail
    refine (szS_negJ A n c _ _ (by omega) (by omega) (by omega) hm).mono ?_
    rintro e w1 ⟨rfl, rfl⟩
    go_wp2_with fail
    go_ret
    exact ⟨rfl, Below.refl _ _⟩

/-! ### The row's step. -/
set_option maxRecDepth 100000 in
theorem lifted (os : Os) (started : os.Started) (H : Type) (enc : TypeId × Value → H) :
    ReturnsInHanded {} Try.checked os 10 .any (Rows.fnExactSailedLinesSpec.pre6 enc Try.prog Try.f10 Rows.fnExactSailedLinesRow.domain false) (Rows.fnExactSailedLinesSpec.post enc Try.prog Try.f10 false true false false) := by
  refine returnsInHanded_of_change (C := Try.checked) own started (by kernel_rfl) Try.func10
    (ChangeSpec.witness6 (enc := enc) (C := Try.checked) false ⟨#[], #[.slice none 0 0], []⟩ 8 (by kernel_rfl) (by kernel_rfl) (by kernel_rfl) (by kernel_rfl)) ?_
  intro W base args ds gs before hval0 hW hcnd _
  have hval : ∀ (j : Nat) t v, Try.f10.params[j]? = some t → args[j]? = some v → Value.okWide Try.prog W .any base t v := hval0
  have hW' := hW
  obtain ⟨p, q, hA0, hV, rfl, hfz, hnd⟩ := hW
  have hA : DataW.TrodAll enc Try.prog W 0 (fun _ => true) true Try.f10.params.toList args.toList ds p := hA0
  rw [Try.params10] at hA hval
  obtain ⟨v0, vs0, d0, ds0, p0, q0, hargs, rfl, rfl, h0, r0⟩ := trodAll_cons hA
  obtain ⟨rfl, rfl, rfl⟩ := trodAll_nil r0
  obtain rfl : args = #[v0] := by cases args; simp_all
  obtain ⟨rfl, rfl⟩ := trodVars_none hV
  have k0 := h0
  have lt0 : ∀ x ∈ p0, x.block < W.heap.size := by obtain ⟨m, hm⟩ := k0; exact DataW.trod_lt m _ _ _ hm
  obtain ⟨A0, n0, c0, rfl⟩ := okWide_slice Try.underlying60 (hval 0 60 v0 rfl rfl)
  obtain ⟨m0, l0, w0⟩ := open_linesJ h0
  clear hA0 hval0
  refine (walk A0 n0 c0 l0 W w0 m0).mono fun e W1 ⟨he, bel⟩ => ?_
  subst he
  exact ⟨_, rfl, _, _, _, [], _, [], hW', trodAll_mk1 (shut_bool Try.underlying4 _), (trodAll_cons_mk (Below.trod laidOut (by kernel_rfl) (of_decide_eq_true (by kernel_rfl)) k0 bel lt0) trodAll_mk0), rfl, bel.frame _, fun h => by cases h⟩

/-- The statement. -/
theorem proved : Rows.FnExactSailedLinesSaid :=
  OpenClaim.holds_of_wide 10 Try.f10 rfl rfl rfl rfl rfl rfl rfl ⟨rfl, rfl, rfl, rfl, rfl⟩ rfl rfl rfl rfl rfl (by kernel_rfl) Try.func10 (by kernel_rfl)
    (of_decide_eq_true (by kernel_rfl)) (by unfold Func.isWrapper; first | (rw [if_pos (by decide +kernel)]; kernel_rfl) | (rw [if_neg (by decide +kernel)]; exact ⟨rfl, rfl⟩))
    (fun os started H enc _ => lifted os started H enc)
#print axioms proved
end Go.Proofs.Ytllfmjnniagjfaa.fnExactSailedLines
