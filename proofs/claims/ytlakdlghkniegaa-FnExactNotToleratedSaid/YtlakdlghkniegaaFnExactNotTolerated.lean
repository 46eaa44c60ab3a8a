/-
  Proved here: for every slice of crossings and two numbers the law laws.FnExactNotTolerated returns true (impl.NotTolerated answers as spec.NotTolerated, writes into no argument, and its answer owns its memory), and the arguments read afterwards as before.
  Conditions: none beyond the row's own.
-/
import Derived.Test.YtlakdlghkniegaaXl
import Derived.Test.YtlakdlghkniegaaXm
import Derived.Test.YtlakdlghkniegaaKt
import Derived.Test.YtlakdlghkniegaaIi
import Derived.Test.YtlakdlghkniegaaFb
namespace Go.Proofs.Ytlakdlghkniegaa.fnExactNotTolerated
open Go.Joins Go.ChangeShapes Go.WideShapes Go.ChangeAt Go.RowKit Go.Deep
set_option linter.unusedVariables false

/-! ### The walk: the Go text returns true, and nothing that was there has turned. -/
theorem _root_.Go.Proofs.Ytlakdlghkniegaa.IFun.farB9 {w w' : World} {lo hi lo' hi' n : Nat} {A : Option Addr} {f : Nat → Int} (h : IFun w lo hi A n f) (hf : FarB lo' hi' w w') (hs : hi ≤ w.heap.size) (hd : hi ≤ lo' ∨ hi' ≤ lo) : IFun w' lo hi A n f := fun k hk => by
  obtain ⟨g, hA, h1, h2, hc, hz⟩ := h k hk
  have hb := hf.block g (by omega) (by omega)
  exact ⟨g, hA, h1, h2, (World.cell?_of_block (a := ⟨g, _, none⟩) hb).trans hc, (World.frozen?_of_block (a := ⟨g, _, none⟩) hb).trans hz⟩
set_option maxRecDepth 20000 in
set_option maxHeartbeats 6400000 in
theorem walk (A : Option Addr) (n c : Nat) (L : List XD) (a b : Int) (w : World) (hs : SdsX w w.heap.size A n L) (hm : n ≤ maxLen) :
    Calls Try.prog 8 #[.slice A n c, .int .i64 a, .int .i64 b] w fun z w' => z = .returned (.bool true) ∧ Below w.heap.size w w' := by
  by_cases h0 : n ≤ 1048576
  · obtain rfl := hs.1
    have HS := Lib.hid hs
    have HSZ := Lib.hid h0
    have HLN : Hid (L.length ≤ 1048576) := Lib.hid (by omega)
    have hle : 0 ≤ (1048576 : Int) - L.length := by omega
    have hk1 := ntR_len L a b
    have HN : Hid ((ntR L a b).length ≤ 1048576) := Lib.hid (by omega)
    have HB0 := Lib.hid (Below.refl w.heap.size w)
    clear hs h0
    go_enter Try.func8, Try.ntmps8
    go_wp2_with fail
    refine (szS_posX A _ c _ _ (by omega) (by omega)).mono ?_
    rintro z w1 ⟨rfl, rfl⟩
    go_wp2_with fail
    refine (copySs_anyX A _ c L _ (sds_atX HS.out HB0.out) HSZ.out).mono ?_
    rintro z w2 ⟨gs, rfl, hF, hb⟩
    have HB1 := Lib.hid (bthen HB0.out hb HB0.out.size)
    have HZ1 := Lib.hid hb.size
    have HFs := Lib.hid (sds_of_fillX hF rfl)
    clear hF hb
    go_wp2_with fail
    refine (nt_spec _ _ _ L a b _ HFs.out hm).mono ?_
    rintro z w3 ⟨As, cs, rfl, hO, hb⟩
    have HB2 := Lib.hid (bthen HB1.out hb HB1.out.size)
    have HFs_2 := Lib.hid (sds_atX HFs.out hb)
    have HZ2 := Lib.hid hb.size
    have HOs := Lib.hid hO
    clear hO hb
    go_wp2_with fail
    refine (copySs_anyX A _ c L _ (sds_atX HS.out HB2.out) HSZ.out).mono ?_
    rintro z w4 ⟨gx, rfl, hF, hb⟩
    have HB3 := Lib.hid (bthen HB2.out hb HB2.out.size)
    have HOs_3 := Lib.hid (HOs.out.on hb (by  omega))
    have HZ3 := Lib.hid hb.size
    have HFx := Lib.hid (sds_of_fillX hF rfl)
    have HQx := Lib.hid (ownS_of_fillX hF rfl)
    clear hF hb
    go_wp2_with fail
    refine (nt_impl _ _ _ L a b _ HFx.out hm (Nat.le_refl _)).mono ?_
    rintro z w5 ⟨Ag, cg, rfl, hO, hb⟩
    have HB4 := Lib.hid (bthen HB3.out hb HB3.out.size)
    have HFx_4 := Lib.hid (sds_atX HFx.out hb)
    have HOs_4 := Lib.hid (HOs_3.out.on hb (by have z0 := HZ3.out; omega))
    have HQ_4 := Lib.hid (HQx.out.on hb (by  first | exact Nat.le_refl _ | omega))
    have HZ4 := Lib.hid hb.size
    have HOg := Lib.hid hO
    clear hO hb
    go_wp2_with fail
    refine (eqI_same _ _ _ _ _ _ _ _ _ _ _ HOg.out HOs_4.out HN.out).mono ?_
    rintro z w6 ⟨rfl, dk, hdk⟩
    have hb : Below w5.heap.size w5 w6 := by rw [hdk]; exact bdrewN (Below.refl _ _) _
    clear hdk
    have HB5 := Lib.hid (bthen HB4.out hb HB4.out.size)
    have HFx_5 := Lib.hid (sds_atX HFx_4.out hb)
    have HOs_5 := Lib.hid (HOs_4.out.on hb (by have z0 := HZ3.out; have z1 := HZ4.out; omega))
    have HOg_5 := Lib.hid (HOg.out.on hb (by  omega))
    have HQ_5 := Lib.hid (HQ_4.out.on hb (by have z0 := HZ4.out; first | exact Nat.le_refl _ | omega))
    have HZ5 := Lib.hid hb.size
    clear hb
    go_wp2_with fail
    refine (copySs_anyX A _ c L _ (sds_atX HS.out HB5.out) HSZ.out).mono ?_
    rintro z w7 ⟨gz, rfl, hF, hb⟩
    have HB6 := Lib.hid (bthen HB5.out hb HB5.out.size)
    have HFx_6 := Lib.hid (sds_atX HFx_5.out hb)
    have HOs_6 := Lib.hid (HOs_5.out.on hb (by have z0 := HZ3.out; have z1 := HZ4.out; have z2 := HZ5.out; omega))
    have HOg_6 := Lib.hid (HOg_5.out.on hb (by have z0 := HZ5.out; omega))
    have HQ_6 := Lib.hid (HQ_5.out.on hb (by have z0 := HZ4.out; have z1 := HZ5.out; first | exact Nat.le_refl _ | omega))
    have HZ6 := Lib.hid hb.size
    have HFz := Lib.hid (sds_of_fillX hF rfl)
    clear hF hb
    go_wp2_with fail
    refine (eqSs_sameX _ _ _ _ _ L _ HFx_6.out HFz.out hm).mono ?_
    rintro z w8 ⟨rfl, hb⟩
    have HB7 := Lib.hid (bthen HB6.out hb HB6.out.size)
    have HFx_7 := Lib.hid (sds_atX HFx_6.out hb)
    have HFz_7 := Lib.hid (sds_atX HFz.out hb)
    have HOs_7 := Lib.hid (HOs_6.out.on hb (by have z0 := HZ3.out; have z1 := HZ4.out; have z2 := HZ5.out; have z3 := HZ6.out; omega))
    have HOg_7 := Lib.hid (HOg_6.out.on hb (by have z0 := HZ5.out; have z1 := HZ6.out; omega))
    have HQ_7 := Lib.hid (HQ_6.out.on hb (by have z0 := HZ4.out; have z1 := HZ5.out; have z2 := HZ6.out; first | exact Nat.le_refl _ | omega))
    have HZ7 := Lib.hid hb.size
    clear hb
    go_wp2_with fail
    refine (markS_posX _ _ _ _ _ _ _ HQ_7.out HLN.out).mono ?_
    rintro z w9 ⟨⟨m, rfl, hmm⟩, hf⟩
    have hb : Below w3.heap.size w8 w9 := hf.below (Nat.le_refl _) (by have z0 := HZ3.out; have z1 := HZ4.out; have z2 := HZ5.out; have z3 := HZ6.out; have z4 := HZ7.out; omega)
    have HZm := Lib.hid hf.size
    have HBm := Lib.hid (HB7.out.trans (hb.mono HB2.out.size))
    have HOsm := Lib.hid (HOs_7.out.farB9 hf (by have z0 := HZ3.out; have z1 := HZ4.out; have z2 := HZ5.out; have z3 := HZ6.out; have z4 := HZ7.out; omega) (.inl (by have z0 := HZ3.out; have z1 := HZ4.out; have z2 := HZ5.out; have z3 := HZ6.out; have z4 := HZ7.out; omega)))
    have HOgm := Lib.hid (HOg_7.out.farB9 hf (by have z0 := HZ5.out; have z1 := HZ6.out; have z2 := HZ7.out; omega) (.inr (by have z0 := HZ4.out; omega)))
    clear hb hf
    go_wp2_with fail
    refine (eqI_same _ _ _ _ _ _ _ _ _ _ _ HOgm.out HOsm.out HN.out).mono ?_
    rintro z w10 ⟨rfl, dk, hdk⟩
    have hb : Below w9.heap.size w9 w10 := by rw [hdk]; exact bdrewN (Below.refl _ _) _
    clear hdk
    have HB8 := Lib.hid (bthen HBm.out hb HBm.out.size)
    have HOs_8 := Lib.hid (HOsm.out.on hb (by have z0 := HZ3.out; have z1 := HZ4.out; have z2 := HZ5.out; have z3 := HZ6.out; have z4 := HZ7.out; have z5 := HZm.out; omega))
    have HOg_8 := Lib.hid (HOgm.out.on hb (by have z0 := HZ5.out; have z1 := HZ6.out; have z2 := HZ7.out; have z3 := HZm.out; omega))
    have HZ8 := Lib.hid hb.size
    clear hb
    go_wp2_with fail
    refine (markI_any _ _ _ _ _ _ _ HOg_8.out HN.out).mono ?_
    rintro z w11 ⟨rfl, hO, hf⟩
    have hb : Below w4.heap.size w10 w11 := hf.below (Nat.le_refl _) (by have z0 := HZ4.out; have z1 := HZ5.out; have z2 := HZ6.out; have z3 := HZ7.out; have z4 := HZm.out; have z5 := HZ8.out; omega)
    have HZm2 := Lib.hid (Nat.le_of_eq hf.size.symm)
    have HBm2 := Lib.hid (HB8.out.trans (hb.mono HB3.out.size))
    have HOsm2 := Lib.hid (HOs_8.out.far hf (by have z0 := HZ3.out; have z1 := HZ4.out; have z2 := HZ5.out; have z3 := HZ6.out; have z4 := HZ7.out; have z5 := HZm.out; have z6 := HZ8.out; omega) (.inl (by have z0 := HZ3.out; omega)))
    have HOgm2 := Lib.hid hO
    clear hb hf hO
    go_wp2_with fail
    refine (heldI_any _ _ _ _ _ _ HOgm2.out HN.out).mono ?_
    rintro z w' ⟨rfl, rfl⟩
    go_wp2_with fail
    refine (copySs_anyX A _ c L _ (sds_atX HS.out HBm2.out) HSZ.out).mono ?_
    rintro z w12 ⟨gy, rfl, hF, hb⟩
    have HB9 := Lib.hid (bthen HBm2.out hb HBm2.out.size)
    have HOs_9 := Lib.hid (HOsm2.out.on hb (by have z0 := HZ3.out; have z1 := HZ4.out; have z2 := HZ5.out; have z3 := HZ6.out; have z4 := HZ7.out; have z5 := HZm.out; have z6 := HZ8.out; have z7 := HZm2.out; omega))
    have HOg_9 := Lib.hid (HOgm2.out.on hb (by have z0 := HZ5.out; have z1 := HZ6.out; have z2 := HZ7.out; have z3 := HZm.out; have z4 := HZ8.out; have z5 := HZm2.out; omega))
    have HZ9 := Lib.hid hb.size
    have HFy := Lib.hid (sds_of_fillX hF rfl)
    clear hF hb
    go_wp2_with fail
    refine (nt_impl _ _ _ L a b _ HFy.out hm (Nat.le_refl _)).mono ?_
    rintro z w13 ⟨Ah, ch, rfl, hO, hb⟩
    have HB10 := Lib.hid (bthen HB9.out hb HB9.out.size)
    have HFy_10 := Lib.hid (sds_atX HFy.out hb)
    have HOs_10 := Lib.hid (HOs_9.out.on hb (by have z0 := HZ3.out; have z1 := HZ4.out; have z2 := HZ5.out; have z3 := HZ6.out; have z4 := HZ7.out; have z5 := HZm.out; have z6 := HZ8.out; have z7 := HZm2.out; have z8 := HZ9.out; omega))
    have HOg_10 := Lib.hid (HOg_9.out.on hb (by have z0 := HZ5.out; have z1 := HZ6.out; have z2 := HZ7.out; have z3 := HZm.out; have z4 := HZ8.out; have z5 := HZm2.out; have z6 := HZ9.out; omega))
    have HZ10 := Lib.hid hb.size
    have HOh := Lib.hid hO
    clear hO hb
    go_wp2_with fail
    refine (eqI_same _ _ _ _ _ _ _ _ _ _ _ HOh.out HOs_10.out HN.out).mono ?_
    rintro z w14 ⟨rfl, dk, hdk⟩
    have hb : Below w13.heap.size w13 w14 := by rw [hdk]; exact bdrewN (Below.refl _ _) _
    clear hdk
    have HB11 := Lib.hid (bthen HB10.out hb HB10.out.size)
    have HOs_11 := Lib.hid (HOs_10.out.on hb (by have z0 := HZ3.out; have z1 := HZ4.out; have z2 := HZ5.out; have z3 := HZ6.out; have z4 := HZ7.out; have z5 := HZm.out; have z6 := HZ8.out; have z7 := HZm2.out; have z8 := HZ9.out; have z9 := HZ10.out; omega))
    have HOg_11 := Lib.hid (HOg_10.out.on hb (by have z0 := HZ5.out; have z1 := HZ6.out; have z2 := HZ7.out; have z3 := HZm.out; have z4 := HZ8.out; have z5 := HZm2.out; have z6 := HZ9.out; have z7 := HZ10.out; omega))
    have HOh_11 := Lib.hid (HOh.out.on hb (by  omega))
    have HZ11 := Lib.hid hb.size
    clear hb
    go_wp2_with fail
    refine (heldI_any _ _ _ _ _ _ HOg_11.out HN.out).mono ?_
    rintro z w' ⟨rfl, rfl⟩
    go_wp2_with fail
    go_ret
    exact ⟨rfl, HB11.out⟩
  · go_enter Try.func8, Try.ntmps8
    go_wp2_with fail
    refine (szS_negX A n c _ _ (by omega) (by omega) (by omega) hm).mono ?_
    rintro e w1 ⟨rfl, rfl⟩
    go_wp2_with fail
    go_ret
    exact ⟨rfl, Below.refl _ _⟩

/-! ### The row's step. -/
set_option maxRecDepth 100000 in
theorem lifted (os : Os) (started : os.Started) (H : Type) (enc : TypeId × Value → H) :
    ReturnsInHanded {} Try.checked os 8 .any (Rows.fnExactNotToleratedSpec.pre6 enc Try.prog Try.f8 Rows.fnExactNotToleratedRow.domain false) (Rows.fnExactNotToleratedSpec.post enc Try.prog Try.f8 false true false false) := by
  refine returnsInHanded_of_change (C := Try.checked) own started (by kernel_rfl) Try.func8
    (ChangeSpec.witness6 (enc := enc) (C := Try.checked) false ⟨#[], #[.slice none 0 0, .int .i64 0, .int .i64 0], []⟩ 8 (by kernel_rfl) (by kernel_rfl) (by kernel_rfl) (by kernel_rfl)) ?_
  intro W base args ds gs before hval0 hW hcnd _
  have hval : ∀ (j : Nat) t v, Try.f8.params[j]? = some t → args[j]? = some v → Value.okWide Try.prog W .any base t v := hval0
  have hW' := hW
  obtain ⟨p, q, hA0, hV, rfl, hfz, hnd⟩ := hW
  have hA : DataW.TrodAll enc Try.prog W 0 (fun _ => true) true Try.f8.params.toList args.toList ds p := hA0
  rw [Try.params8] at hA hval
  obtain ⟨v0, vs0, d0, ds0, p0, q0, hargs, rfl, rfl, h0, r0⟩ := trodAll_cons hA
  obtain ⟨v1, vs1, d1, ds1, p1, q1, rfl, rfl, rfl, h1, r1⟩ := trodAll_cons r0
  obtain ⟨v2, vs2, d2, ds2, p2, q2, rfl, rfl, rfl, h2, r2⟩ := trodAll_cons r1
  obtain ⟨rfl, rfl, rfl⟩ := trodAll_nil r2
  obtain rfl : args = #[v0, v1, v2] := by cases args; simp_all
  obtain ⟨rfl, rfl⟩ := trodVars_none hV
  have k0 := h0
  have lt0 : ∀ x ∈ p0, x.block < W.heap.size := by obtain ⟨m, hm⟩ := k0; exact DataW.trod_lt m _ _ _ hm
  obtain ⟨A0, n0, c0, rfl⟩ := okWide_slice Try.underlying51 (hval 0 51 v0 rfl rfl)
  obtain ⟨m0, l0, w0⟩ := open_linesX h0
  have k1 := h1
  have lt1 : ∀ x ∈ p1, x.block < W.heap.size := by obtain ⟨m, hm⟩ := k1; exact DataW.trod_lt m _ _ _ hm
  obtain ⟨x1, rfl⟩ := open_num (hval 1 3 v1 rfl rfl) h1
  have k2 := h2
  have lt2 : ∀ x ∈ p2, x.block < W.heap.size := by obtain ⟨m, hm⟩ := k2; exact DataW.trod_lt m _ _ _ hm
  obtain ⟨x2, rfl⟩ := open_num (hval 2 3 v2 rfl rfl) h2
  clear hA0 hval0
  refine (walk A0 n0 c0 l0 x1 x2 W w0 m0).mono fun e W1 ⟨he, bel⟩ => ?_
  subst he
  exact ⟨_, rfl, _, _, _, [], _, [], hW', trodAll_mk1 (shut_bool Try.underlying4 _), (trodAll_cons_mk (Below.trod laidOut (by kernel_rfl) (of_decide_eq_true (by kernel_rfl)) k0 bel lt0) (trodAll_cons_mk (Below.trod laidOut (by kernel_rfl) (of_decide_eq_true (by kernel_rfl)) k1 bel lt1) (trodAll_cons_mk (Below.trod laidOut (by kernel_rfl) (of_decide_eq_true (by kernel_rfl)) k2 bel lt2) trodAll_mk0))), rfl, bel.frame _, fun h => by cases h⟩

/-- The statement. -/
theorem proved : Rows.FnExactNotToleratedSaid :=
  OpenClaim.holds_of_wide 8 Try.f8 rfl rfl rfl rfl rfl rfl rfl ⟨rfl, rfl, rfl, rfl, rfl⟩ rfl rfl rfl rfl rfl (by kernel_rfl) Try.func8 (by kernel_rfl)
    (of_decide_eq_true (by kernel_rfl)) (by unfold Func.isWrapper; first | (rw [if_pos (by decide +kernel)]; kernel_rfl) | (rw [if_neg (by decide +kernel)]; exact ⟨rfl, rfl⟩))
    (fun os started H enc _ => lifted os started H enc)
#print axioms proved
end Go.Proofs.Ytlakdlghkniegaa.fnExactNotTolerated
