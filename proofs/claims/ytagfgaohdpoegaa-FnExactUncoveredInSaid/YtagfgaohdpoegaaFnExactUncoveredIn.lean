/-
  Proved here: for every slice of lines and box the law laws.FnExactUncoveredIn returns true (impl.UncoveredIn answers as spec.UncoveredIn, writes into no argument, and its answer owns its memory), and the arguments read afterwards as before.
  Conditions: none beyond the row's own.
-/
import Derived.Test.YtagfgaohdpoegaaLl
import Derived.Test.YtagfgaohdpoegaaCe
import Derived.Test.YtagfgaohdpoegaaPp
import Derived.Test.YtagfgaohdpoegaaLr
namespace Go.Proofs.Ytagfgaohdpoegaa.fnExactUncoveredIn
open Go.Joins Go.ChangeShapes Go.WideShapes Go.ChangeAt Go.RowKit Go.Deep
set_option linter.unusedVariables false

/-! ### The walk: the Go text returns true, and nothing that was there has turned. -/
theorem has_far9 {w w' : World} {g B : Nat} {cs : List Value} (h : Has w g cs) (hb : Below B w w') (hg : g < B) : Has w' g cs := h.on hb hg
theorem opR_len (L : List LN) (a b d e : Int) : (opR L a b d e).length ≤ 400 := by
  unfold opR
  split
  · rw [clL_len]; exact clK_le _ 20
  · simp
set_option maxRecDepth 20000 in
set_option maxHeartbeats 6400000 in
theorem walk (A : Option Addr) (n c : Nat) (L : List LN) (a b d e : Int) (w : World) (hs : SdsN w w.heap.size A n L) (hm : n ≤ maxLen) :
    Calls Try.prog 9 #[.slice A n c, .agg #[.int .i64 a, .int .i64 b, .int .i64 d, .int .i64 e]] w fun z w' => z = .returned (.bool true) ∧ Below w.heap.size w w' := by
  by_cases h0 : n ≤ 1048576
  · obtain rfl := hs.1
    have HS := Lib.hid hs
    have HSZ := Lib.hid h0
    have HLN : Hid (L.length ≤ 1048576) := Lib.hid (by omega)
    have hle : 0 ≤ (1048576 : Int) - L.length := by omega
    have hk1 : (opR L a b d e).length ≤ 400 := opR_len L a b d e
    have HN : Hid ((opR L a b d e).length ≤ 1048576) := Lib.hid (by omega)
    have HNm : Hid ((opR L a b d e).length ≤ maxLen) := Lib.hid (by unfold maxLen; omega)
    clear hs h0
    obtain ⟨W0, hW0⟩ : ∃ W0, W0 = w.alloc (.cells #[.int .i64 a, .int .i64 b, .int .i64 d, .int .i64 e] 63) := ⟨_, rfl⟩
    have HX0 : Hid (Below w.heap.size w W0 ∧ Has W0 w.heap.size [.int .i64 a, .int .i64 b, .int .i64 d, .int .i64 e]) := by rw [hW0]; exact box1 (Below.refl _ _)
    have HE := Lib.hid hW0
    clear hW0
    have HBx := Lib.hid HX0.out.1
    have HXx := Lib.hid HX0.out.2
    go_enter Try.func9, Try.ntmps9
    go_wp2_with fail
    rw [← HE.out]
    refine (szS_posN A _ c _ _ (by omega) (by omega)).mono ?_
    rintro z w1 ⟨rfl, rfl⟩
    have b0 := HXx.out.at_ 0 _ rfl
    have b1 := HXx.out.at_ 1 _ rfl
    have b2 := HXx.out.at_ 2 _ rfl
    have b3 := HXx.out.at_ 3 _ rfl
    go_wp2_with fail
    have lc0 := lcell b0
    have lc1 := lcell b1
    have lc2 := lcell b2
    have lc3 := lcell b3
    refine region_reads (W := W0) 9 8 [0, 2] (by kernel_rfl) (by kernel_rfl) rfl (Below.refl _ _) (fun d _ _ _ _ h => by cases d <;> exact h) ?_
    simp only [picks, List.getElem?_cons_succ, List.getElem?_cons_zero]
    repeat (go_big_quiet_step (fail))
    refine wpQuiet_nil ?_
    intro Ws hW1
    have hb : Below W0.heap.size W0 Ws := by obtain ⟨x, rfl⟩ := hW1; exact x.below
    have HL0s := Lib.hid hb
    have HB2 := Lib.hid (bthen HBx.out hb HBx.out.size)
    have HX_2 := Lib.hid (HXx.out.next hb)
    have HZ2 := Lib.hid hb.size
    clear hW1 lc0 lc1 lc2 lc3 b0 b1 b2 b3 hb
    refine wpAnyN_one (i := 1) (by kernel_rfl) ?_
    refine wpOp_step rfl (fun K hK => ?_)
    rw [if_pos (by rfl)]
    go_simp
    refine (copySs_anyN A _ c L _ (sds_atN HS.out HB2.out) HSZ.out).mono ?_
    rintro z w2s ⟨gas, rfl, hF, hb⟩
    have HL1s := Lib.hid (bthen HL0s.out hb HL0s.out.size)
    have HB3 := Lib.hid (bthen HB2.out hb HB2.out.size)
    have HX_3 := Lib.hid (HX_2.out.next hb)
    have HZ3 := Lib.hid hb.size
    have HFas := Lib.hid (sds_of_fillN hF rfl)
    clear hF
    refine hK _ _ ⟨⟨⟨_, HL1s.out⟩, rfl⟩, ?_⟩
    clear hK K hb
    refine wpAnyN_one (i := 3) (by kernel_rfl) ?_
    refine wpOp_step rfl (fun K hK => ?_)
    rw [if_pos (by rfl)]
    go_simp
    refine (toBoxS_anyN a b d e _).mono ?_
    rintro z w2ss ⟨rfl, hb⟩
    have HL2s := Lib.hid (bthen HL1s.out hb HL1s.out.size)
    have HB4 := Lib.hid (bthen HB3.out hb HB3.out.size)
    have HX_4 := Lib.hid (HX_3.out.next hb)
    have HFas_4 := Lib.hid (sds_atN HFas.out hb)
    have HZ4 := Lib.hid hb.size
    refine hK _ _ ⟨⟨⟨_, HL2s.out⟩, rfl⟩, ?_⟩
    clear hK K hb
    refine wpAnyN_one (i := 4) (by kernel_rfl) ?_
    refine wpOp_step rfl (fun K hK => ?_)
    rw [if_pos (by rfl)]
    go_simp
    refine (open_spec _ _ _ L a b d e _ HFas_4.out hm).mono ?_
    rintro z w3s ⟨As, cs, rfl, hO, hb⟩
    have HL3s := Lib.hid (bthen HL2s.out hb HL2s.out.size)
    have HB5 := Lib.hid (bthen HB4.out hb HB4.out.size)
    have HX_5 := Lib.hid (HX_4.out.next hb)
    have HFas_5 := Lib.hid (sds_atN HFas_4.out hb)
    have HZ5 := Lib.hid hb.size
    have HOs := Lib.hid hO
    clear hO
    refine hK _ _ ⟨⟨⟨_, HL3s.out⟩, rfl⟩, ?_⟩
    clear hK K hb
    refine wpAnyN_rest [5, 6, 7, 8, 9] rfl (by kernel_rfl) rfl (by kernel_rfl) HL3s.out ?_
    simp only [picks, List.getElem?_cons_succ, List.getElem?_cons_zero]
    repeat (go_big_quiet_step (fail))
    refine wpQuiet_nil ?_
    intro W6s hW1
    have hb : Below w3s.heap.size w3s W6s := by obtain ⟨x, rfl⟩ := hW1; exact x.below
    have HB6 := Lib.hid (bthen HB5.out hb HB5.out.size)
    have HX_6 := Lib.hid (HX_5.out.next hb)
    have HOs_6 := Lib.hid (HOs.out.on hb (by  omega))
    have HZ6 := Lib.hid hb.size
    clear hW1 hb
    have HBs : Hid (Below w.heap.size w W6s ∧ w.heap.size < W6s.heap.size) := Lib.hid ⟨HB6.out, HX_6.out.1⟩
    go_wp2_with fail
    refine (copySs_anyN A _ c L _ (sds_atN HS.out HB6.out) HSZ.out).mono ?_
    rintro z wx ⟨gx, rfl, hF, hb⟩
    have HB7 := Lib.hid (bthen HB6.out hb HB6.out.size)
    have HX_7 := Lib.hid (HX_6.out.next hb)
    have HOs_7 := Lib.hid (HOs_6.out.on hb (by have z0 := HZ6.out; omega))
    have HZ7 := Lib.hid hb.size
    have HFx := Lib.hid (sds_of_fillN hF rfl)
    have HQx := Lib.hid (ownS_of_fillN hF rfl)
    clear hF
    clear hb
    have b0 := HX_7.out.at_ 0 _ rfl
    have b1 := HX_7.out.at_ 1 _ rfl
    have b2 := HX_7.out.at_ 2 _ rfl
    have b3 := HX_7.out.at_ 3 _ rfl
    go_wp2_with fail
    refine (toBoxS_anyN a b d e _).mono ?_
    rintro z wy ⟨rfl, hb⟩
    have HB8 := Lib.hid (bthen HB7.out hb HB7.out.size)
    have HX_8 := Lib.hid (HX_7.out.next hb)
    have HFx_8 := Lib.hid (sds_atN HFx.out hb)
    have HOs_8 := Lib.hid (HOs_7.out.on hb (by have z0 := HZ6.out; have z1 := HZ7.out; omega))
    have HZ8 := Lib.hid hb.size
    have HQ_8 := Lib.hid (HQx.out.on hb (by  first | exact Nat.le_refl _ | omega))
    clear hb b0 b1 b2 b3
    go_wp2_with fail
    refine (open_impl _ _ _ L a b d e _ HFx_8.out hm).mono ?_
    rintro z wg ⟨Ag, cg, rfl, hO, hb⟩
    have HB9 := Lib.hid (bthen HB8.out hb HB8.out.size)
    have HX_9 := Lib.hid (HX_8.out.next hb)
    have HFx_9 := Lib.hid (sds_atN HFx_8.out hb)
    have HOs_9 := Lib.hid (HOs_8.out.on hb (by have z0 := HZ6.out; have z1 := HZ7.out; have z2 := HZ8.out; omega))
    have HZ9 := Lib.hid hb.size
    have HQ_9 := Lib.hid (HQ_8.out.on hb (by have z0 := HZ8.out; first | exact Nat.le_refl _ | omega))
    have HOg := Lib.hid hO
    clear hO hb
    go_wp2_with fail
    refine (eqP_same _ _ _ _ _ (opR L a b d e) _ (HOg.out.spots (by  omega)) (HOs_9.out.spots (by have z0 := HZ6.out; have z1 := HZ7.out; have z2 := HZ8.out; have z3 := HZ9.out; omega)) HNm.out).mono ?_
    rintro z wh ⟨rfl, hb⟩
    have HB10 := Lib.hid (bthen HB9.out hb HB9.out.size)
    have HX_10 := Lib.hid (HX_9.out.next hb)
    have HFx_10 := Lib.hid (sds_atN HFx_9.out hb)
    have HOs_10 := Lib.hid (HOs_9.out.on hb (by have z0 := HZ6.out; have z1 := HZ7.out; have z2 := HZ8.out; have z3 := HZ9.out; omega))
    have HOg_10 := Lib.hid (HOg.out.on hb (by  omega))
    have HZ10 := Lib.hid hb.size
    have HQ_10 := Lib.hid (HQ_9.out.on hb (by have z0 := HZ8.out; have z1 := HZ9.out; first | exact Nat.le_refl _ | omega))
    clear hb
    go_wp2_with fail
    refine (copySs_anyN A _ c L _ (sds_atN HS.out HB10.out) HSZ.out).mono ?_
    rintro z wi ⟨gz, rfl, hF, hb⟩
    have HB11 := Lib.hid (bthen HB10.out hb HB10.out.size)
    have HX_11 := Lib.hid (HX_10.out.next hb)
    have HFx_11 := Lib.hid (sds_atN HFx_10.out hb)
    have HOs_11 := Lib.hid (HOs_10.out.on hb (by have z0 := HZ6.out; have z1 := HZ7.out; have z2 := HZ8.out; have z3 := HZ9.out; have z4 := HZ10.out; omega))
    have HOg_11 := Lib.hid (HOg_10.out.on hb (by have z0 := HZ10.out; omega))
    have HZ11 := Lib.hid hb.size
    have HQ_11 := Lib.hid (HQ_10.out.on hb (by have z0 := HZ8.out; have z1 := HZ9.out; have z2 := HZ10.out; first | exact Nat.le_refl _ | omega))
    have HFz := Lib.hid (sds_of_fillN hF rfl)
    clear hF
    clear hb
    go_wp2_with fail
    refine (eqSs_sameN _ _ _ _ _ L _ HFx_11.out HFz.out hm).mono ?_
    rintro z wj ⟨rfl, hb⟩
    have HB12 := Lib.hid (bthen HB11.out hb HB11.out.size)
    have HX_12 := Lib.hid (HX_11.out.next hb)
    have HFx_12 := Lib.hid (sds_atN HFx_11.out hb)
    have HOs_12 := Lib.hid (HOs_11.out.on hb (by have z0 := HZ6.out; have z1 := HZ7.out; have z2 := HZ8.out; have z3 := HZ9.out; have z4 := HZ10.out; have z5 := HZ11.out; omega))
    have HOg_12 := Lib.hid (HOg_11.out.on hb (by have z0 := HZ10.out; have z1 := HZ11.out; omega))
    have HZ12 := Lib.hid hb.size
    have HQ_12 := Lib.hid (HQ_11.out.on hb (by have z0 := HZ8.out; have z1 := HZ9.out; have z2 := HZ10.out; have z3 := HZ11.out; first | exact Nat.le_refl _ | omega))
    clear hb
    go_wp2_with fail
    refine (markS_posN _ _ _ _ _ _ _ HQ_12.out HLN.out).mono ?_
    rintro z wk ⟨⟨m, rfl, hmm⟩, hf⟩
    have hb : Below W6s.heap.size wj wk := hf.below (Nat.le_refl _) (by have z0 := HZ6.out; have z1 := HZ7.out; have z2 := HZ8.out; have z3 := HZ9.out; have z4 := HZ10.out; have z5 := HZ11.out; have z6 := HZ12.out; omega)
    have hs9 := hf.size
    have HB13 := Lib.hid (HB12.out.trans (hb.mono (by have y0 := HBs.out.1.size; exact y0)))
    have HX_13 := Lib.hid (has_far9 HX_12.out hb (by have y0 := HBs.out.2; exact y0))
    have HOs_13 := Lib.hid (HOs_12.out.farB hf (by have z0 := HZ6.out; have z1 := HZ7.out; have z2 := HZ8.out; have z3 := HZ9.out; have z4 := HZ10.out; have z5 := HZ11.out; have z6 := HZ12.out; omega) (.inl (by have z0 := HZ6.out; omega)))
    have HOg_13 := Lib.hid (HOg_12.out.farB hf (by have z0 := HZ10.out; have z1 := HZ11.out; have z2 := HZ12.out; omega) (.inr (by have z0 := HZ8.out; omega)))
    have HZ13 := Lib.hid hs9
    clear hb hf hs9
    go_wp2_with fail
    refine (eqP_same _ _ _ _ _ (opR L a b d e) _ (HOg_13.out.spots (by have z0 := HZ10.out; have z1 := HZ11.out; have z2 := HZ12.out; have z3 := HZ13.out; omega)) (HOs_13.out.spots (by have z0 := HZ6.out; have z1 := HZ7.out; have z2 := HZ8.out; have z3 := HZ9.out; have z4 := HZ10.out; have z5 := HZ11.out; have z6 := HZ12.out; have z7 := HZ13.out; omega)) HNm.out).mono ?_
    rintro z wl ⟨rfl, hb⟩
    have HB14 := Lib.hid (bthen HB13.out hb HB13.out.size)
    have HX_14 := Lib.hid (HX_13.out.next hb)
    have HOs_14 := Lib.hid (HOs_13.out.on hb (by have z0 := HZ6.out; have z1 := HZ7.out; have z2 := HZ8.out; have z3 := HZ9.out; have z4 := HZ10.out; have z5 := HZ11.out; have z6 := HZ12.out; have z7 := HZ13.out; omega))
    have HOg_14 := Lib.hid (HOg_13.out.on hb (by have z0 := HZ10.out; have z1 := HZ11.out; have z2 := HZ12.out; have z3 := HZ13.out; omega))
    have HZ14 := Lib.hid hb.size
    clear hb
    go_wp2_with fail
    refine (markP_any _ _ _ _ _ _ _ HOg_14.out HN.out).mono ?_
    rintro z wm ⟨rfl, hO, hf⟩
    have hb : Below wy.heap.size wl wm := hf.below (Nat.le_refl _) (by have z0 := HZ8.out; have z1 := HZ9.out; have z2 := HZ10.out; have z3 := HZ11.out; have z4 := HZ12.out; have z5 := HZ13.out; have z6 := HZ14.out; omega)
    have hs9 : wl.heap.size ≤ wm.heap.size := hb.size
    have HB15 := Lib.hid (HB14.out.trans (hb.mono (by have y0 := HBs.out.1.size; have z0 := HZ6.out; have z1 := HZ7.out; have z2 := HZ8.out; omega)))
    have HX_15 := Lib.hid (has_far9 HX_14.out hb (by have y0 := HBs.out.2; have z0 := HZ6.out; have z1 := HZ7.out; have z2 := HZ8.out; omega))
    have HOs_15 := Lib.hid (HOs_14.out.far hf (by have z0 := HZ6.out; have z1 := HZ7.out; have z2 := HZ8.out; have z3 := HZ9.out; have z4 := HZ10.out; have z5 := HZ11.out; have z6 := HZ12.out; have z7 := HZ13.out; have z8 := HZ14.out; omega) (.inl (by have z0 := HZ6.out; have z1 := HZ7.out; have z2 := HZ8.out; omega)))
    have HOg_15 := Lib.hid hO
    have HZ15 := Lib.hid hs9
    clear hb hf hs9 hO
    go_wp2_with fail
    refine (heldP_any _ _ _ _ _ _ HOg_15.out HN.out).mono ?_
    rintro z w' ⟨rfl, rfl⟩
    have b0 := HX_15.out.at_ 0 _ rfl
    have b1 := HX_15.out.at_ 1 _ rfl
    have b2 := HX_15.out.at_ 2 _ rfl
    have b3 := HX_15.out.at_ 3 _ rfl
    go_wp2_with fail
    have lc0 := lcell b0
    have lc1 := lcell b1
    have lc2 := lcell b2
    have lc3 := lcell b3
    refine region_reads (W := wm) 9 8 [0, 2] (by kernel_rfl) (by kernel_rfl) rfl (Below.refl _ _) (fun d _ _ _ _ h => by cases d <;> exact h) ?_
    simp only [picks, List.getElem?_cons_succ, List.getElem?_cons_zero]
    repeat (go_big_quiet_step (fail))
    refine wpQuiet_nil ?_
    intro Wh hW1
    have hb : Below wm.heap.size wm Wh := by obtain ⟨x, rfl⟩ := hW1; exact x.below
    have HL0h := Lib.hid hb
    have HB16 := Lib.hid (bthen HB15.out hb HB15.out.size)
    have HX_16 := Lib.hid (HX_15.out.next hb)
    have HOs_16 := Lib.hid (HOs_15.out.on hb (by have z0 := HZ6.out; have z1 := HZ7.out; have z2 := HZ8.out; have z3 := HZ9.out; have z4 := HZ10.out; have z5 := HZ11.out; have z6 := HZ12.out; have z7 := HZ13.out; have z8 := HZ14.out; have z9 := HZ15.out; omega))
    have HOg_16 := Lib.hid (HOg_15.out.on hb (by have z0 := HZ10.out; have z1 := HZ11.out; have z2 := HZ12.out; have z3 := HZ13.out; have z4 := HZ14.out; have z5 := HZ15.out; omega))
    have HZ16 := Lib.hid hb.size
    clear hW1 lc0 lc1 lc2 lc3 b0 b1 b2 b3 hb
    refine wpAnyN_one (i := 1) (by kernel_rfl) ?_
    refine wpOp_step rfl (fun K hK => ?_)
    rw [if_pos (by rfl)]
    go_simp
    refine (copySs_anyN A _ c L _ (sds_atN HS.out HB16.out) HSZ.out).mono ?_
    rintro z w2h ⟨gah, rfl, hF, hb⟩
    have HL1h := Lib.hid (bthen HL0h.out hb HL0h.out.size)
    have HB17 := Lib.hid (bthen HB16.out hb HB16.out.size)
    have HX_17 := Lib.hid (HX_16.out.next hb)
    have HOs_17 := Lib.hid (HOs_16.out.on hb (by have z0 := HZ6.out; have z1 := HZ7.out; have z2 := HZ8.out; have z3 := HZ9.out; have z4 := HZ10.out; have z5 := HZ11.out; have z6 := HZ12.out; have z7 := HZ13.out; have z8 := HZ14.out; have z9 := HZ15.out; have z10 := HZ16.out; omega))
    have HOg_17 := Lib.hid (HOg_16.out.on hb (by have z0 := HZ10.out; have z1 := HZ11.out; have z2 := HZ12.out; have z3 := HZ13.out; have z4 := HZ14.out; have z5 := HZ15.out; have z6 := HZ16.out; omega))
    have HZ17 := Lib.hid hb.size
    have HFah := Lib.hid (sds_of_fillN hF rfl)
    clear hF
    refine hK _ _ ⟨⟨⟨_, HL1h.out⟩, rfl⟩, ?_⟩
    clear hK K hb
    refine wpAnyN_one (i := 3) (by kernel_rfl) ?_
    refine wpOp_step rfl (fun K hK => ?_)
    rw [if_pos (by rfl)]
    go_simp
    refine (toBoxS_anyN a b d e _).mono ?_
    rintro z w2sh ⟨rfl, hb⟩
    have HL2h := Lib.hid (bthen HL1h.out hb HL1h.out.size)
    have HB18 := Lib.hid (bthen HB17.out hb HB17.out.size)
    have HX_18 := Lib.hid (HX_17.out.next hb)
    have HFah_18 := Lib.hid (sds_atN HFah.out hb)
    have HOs_18 := Lib.hid (HOs_17.out.on hb (by have z0 := HZ6.out; have z1 := HZ7.out; have z2 := HZ8.out; have z3 := HZ9.out; have z4 := HZ10.out; have z5 := HZ11.out; have z6 := HZ12.out; have z7 := HZ13.out; have z8 := HZ14.out; have z9 := HZ15.out; have z10 := HZ16.out; have z11 := HZ17.out; omega))
    have HOg_18 := Lib.hid (HOg_17.out.on hb (by have z0 := HZ10.out; have z1 := HZ11.out; have z2 := HZ12.out; have z3 := HZ13.out; have z4 := HZ14.out; have z5 := HZ15.out; have z6 := HZ16.out; have z7 := HZ17.out; omega))
    have HZ18 := Lib.hid hb.size
    refine hK _ _ ⟨⟨⟨_, HL2h.out⟩, rfl⟩, ?_⟩
    clear hK K hb
    refine wpAnyN_one (i := 4) (by kernel_rfl) ?_
    refine wpOp_step rfl (fun K hK => ?_)
    rw [if_pos (by rfl)]
    go_simp
    refine (open_impl _ _ _ L a b d e _ HFah_18.out hm).mono ?_
    rintro z w3h ⟨Ah, ch, rfl, hO, hb⟩
    have HL3h := Lib.hid (bthen HL2h.out hb HL2h.out.size)
    have HB19 := Lib.hid (bthen HB18.out hb HB18.out.size)
    have HX_19 := Lib.hid (HX_18.out.next hb)
    have HFah_19 := Lib.hid (sds_atN HFah_18.out hb)
    have HOs_19 := Lib.hid (HOs_18.out.on hb (by have z0 := HZ6.out; have z1 := HZ7.out; have z2 := HZ8.out; have z3 := HZ9.out; have z4 := HZ10.out; have z5 := HZ11.out; have z6 := HZ12.out; have z7 := HZ13.out; have z8 := HZ14.out; have z9 := HZ15.out; have z10 := HZ16.out; have z11 := HZ17.out; have z12 := HZ18.out; omega))
    have HOg_19 := Lib.hid (HOg_18.out.on hb (by have z0 := HZ10.out; have z1 := HZ11.out; have z2 := HZ12.out; have z3 := HZ13.out; have z4 := HZ14.out; have z5 := HZ15.out; have z6 := HZ16.out; have z7 := HZ17.out; have z8 := HZ18.out; omega))
    have HZ19 := Lib.hid hb.size
    have HOh := Lib.hid hO
    clear hO
    refine hK _ _ ⟨⟨⟨_, HL3h.out⟩, rfl⟩, ?_⟩
    clear hK K hb
    refine wpAnyN_rest [5, 6, 7, 8, 9] rfl (by kernel_rfl) rfl (by kernel_rfl) HL3h.out ?_
    simp only [picks, List.getElem?_cons_succ, List.getElem?_cons_zero]
    repeat (go_big_quiet_step (fail))
    refine wpQuiet_nil ?_
    intro W6h hW1
    have hb : Below w3h.heap.size w3h W6h := by obtain ⟨x, rfl⟩ := hW1; exact x.below
    have HB20 := Lib.hid (bthen HB19.out hb HB19.out.size)
    have HX_20 := Lib.hid (HX_19.out.next hb)
    have HOs_20 := Lib.hid (HOs_19.out.on hb (by have z0 := HZ6.out; have z1 := HZ7.out; have z2 := HZ8.out; have z3 := HZ9.out; have z4 := HZ10.out; have z5 := HZ11.out; have z6 := HZ12.out; have z7 := HZ13.out; have z8 := HZ14.out; have z9 := HZ15.out; have z10 := HZ16.out; have z11 := HZ17.out; have z12 := HZ18.out; have z13 := HZ19.out; omega))
    have HOg_20 := Lib.hid (HOg_19.out.on hb (by have z0 := HZ10.out; have z1 := HZ11.out; have z2 := HZ12.out; have z3 := HZ13.out; have z4 := HZ14.out; have z5 := HZ15.out; have z6 := HZ16.out; have z7 := HZ17.out; have z8 := HZ18.out; have z9 := HZ19.out; omega))
    have HOh_20 := Lib.hid (HOh.out.on hb (by  omega))
    have HZ20 := Lib.hid hb.size
    clear hW1 hb
    go_wp2_with fail
    refine (eqP_same _ _ _ _ _ (opR L a b d e) _ (HOh_20.out.spots (by have z0 := HZ20.out; omega)) (HOs_20.out.spots (by have z0 := HZ6.out; have z1 := HZ7.out; have z2 := HZ8.out; have z3 := HZ9.out; have z4 := HZ10.out; have z5 := HZ11.out; have z6 := HZ12.out; have z7 := HZ13.out; have z8 := HZ14.out; have z9 := HZ15.out; have z10 := HZ16.out; have z11 := HZ17.out; have z12 := HZ18.out; have z13 := HZ19.out; have z14 := HZ20.out; omega)) HNm.out).mono ?_
    rintro z wo ⟨rfl, hb⟩
    have HB21 := Lib.hid (bthen HB20.out hb HB20.out.size)
    have HX_21 := Lib.hid (HX_20.out.next hb)
    have HOs_21 := Lib.hid (HOs_20.out.on hb (by have z0 := HZ6.out; have z1 := HZ7.out; have z2 := HZ8.out; have z3 := HZ9.out; have z4 := HZ10.out; have z5 := HZ11.out; have z6 := HZ12.out; have z7 := HZ13.out; have z8 := HZ14.out; have z9 := HZ15.out; have z10 := HZ16.out; have z11 := HZ17.out; have z12 := HZ18.out; have z13 := HZ19.out; have z14 := HZ20.out; omega))
    have HOg_21 := Lib.hid (HOg_20.out.on hb (by have z0 := HZ10.out; have z1 := HZ11.out; have z2 := HZ12.out; have z3 := HZ13.out; have z4 := HZ14.out; have z5 := HZ15.out; have z6 := HZ16.out; have z7 := HZ17.out; have z8 := HZ18.out; have z9 := HZ19.out; have z10 := HZ20.out; omega))
    have HOh_21 := Lib.hid (HOh_20.out.on hb (by have z0 := HZ20.out; omega))
    have HZ21 := Lib.hid hb.size
    clear hb
    go_wp2_with fail
    refine (heldP_any _ _ _ _ _ _ HOg_21.out HN.out).mono ?_
    rintro z w' ⟨rfl, rfl⟩
    go_wp2_with fail
    go_ret
    exact ⟨rfl, HB21.out⟩
  · go_enter Try.func9, Try.ntmps9
    go_wp2_with fail
    refine (szS_negN A n c _ _ (by omega) (by omega) (by omega) hm).mono ?_
    rintro e w1 ⟨rfl, rfl⟩
    go_wp2_with fail
    go_ret
    exact ⟨rfl, (Below.refl _ _).alloc (Nat.le_refl _) _⟩

/-! ### The row's step. -/
set_option maxRecDepth 100000 in
theorem lifted (os : Os) (started : os.Started) (H : Type) (enc : TypeId × Value → H) :
    ReturnsInHanded {} Try.checked os 9 .any (Rows.fnExactUncoveredInSpec.pre6 enc Try.prog Try.f9 Rows.fnExactUncoveredInRow.domain false) (Rows.fnExactUncoveredInSpec.post enc Try.prog Try.f9 false true false false) := by
  refine returnsInHanded_of_change (C := Try.checked) own started (by kernel_rfl) Try.func9
    (ChangeSpec.witness6 (enc := enc) (C := Try.checked) false ⟨#[], #[.slice none 0 0, .agg #[.int .i64 0, .int .i64 0, .int .i64 0, .int .i64 0]], []⟩ 8 (by kernel_rfl) (by kernel_rfl) (by kernel_rfl) (by kernel_rfl)) ?_
  intro W base args ds gs before hval0 hW hcnd _
  have hval : ∀ (j : Nat) t v, Try.f9.params[j]? = some t → args[j]? = some v → Value.okWide Try.prog W .any base t v := hval0
  have hW' := hW
  obtain ⟨p, q, hA0, hV, rfl, hfz, hnd⟩ := hW
  have hA : DataW.TrodAll enc Try.prog W 0 (fun _ => true) true Try.f9.params.toList args.toList ds p := hA0
  rw [Try.params9] at hA hval
  obtain ⟨v0, vs0, d0, ds0, p0, q0, hargs, rfl, rfl, h0, r0⟩ := trodAll_cons hA
  obtain ⟨v1, vs1, d1, ds1, p1, q1, rfl, rfl, rfl, h1, r1⟩ := trodAll_cons r0
  obtain ⟨rfl, rfl, rfl⟩ := trodAll_nil r1
  obtain rfl : args = #[v0, v1] := by cases args; simp_all
  obtain ⟨rfl, rfl⟩ := trodVars_none hV
  have k0 := h0
  have lt0 : ∀ x ∈ p0, x.block < W.heap.size := by obtain ⟨m, hm⟩ := k0; exact DataW.trod_lt m _ _ _ hm
  obtain ⟨A0, n0, c0, rfl⟩ := okWide_slice Try.underlying57 (hval 0 57 v0 rfl rfl)
  obtain ⟨m0, l0, w0⟩ := open_linesN h0
  have k1 := h1
  have lt1 : ∀ x ∈ p1, x.block < W.heap.size := by obtain ⟨m, hm⟩ := k1; exact DataW.trod_lt m _ _ _ hm
  obtain ⟨a1, b1, c1, e1, rfl⟩ := open_boxS (hval 1 63 v1 rfl rfl) h1
  clear hA0 hval0
  refine (walk A0 n0 c0 l0 a1 b1 c1 e1 W w0 m0).mono fun e W1 ⟨he, bel⟩ => ?_
  subst he
  exact ⟨_, rfl, _, _, _, [], _, [], hW', trodAll_mk1 (shut_bool Try.underlying4 _), (trodAll_cons_mk (Below.trod laidOut (by kernel_rfl) (of_decide_eq_true (by kernel_rfl)) k0 bel lt0) (trodAll_cons_mk (Below.trod laidOut (by kernel_rfl) (of_decide_eq_true (by kernel_rfl)) k1 bel lt1) trodAll_mk0)), rfl, bel.frame _, fun h => by cases h⟩

/-- The statement. -/
theorem proved : Rows.FnExactUncoveredInSaid :=
  OpenClaim.holds_of_wide 9 Try.f9 rfl rfl rfl rfl rfl rfl rfl ⟨rfl, rfl, rfl, rfl, rfl⟩ rfl rfl rfl rfl rfl (by kernel_rfl) Try.func9 (by kernel_rfl)
    (of_decide_eq_true (by kernel_rfl)) (by unfold Func.isWrapper; first | (rw [if_pos (by decide +kernel)]; kernel_rfl) | (rw [if_neg (by decide +kernel)]; exact ⟨rfl, rfl⟩))
    (fun os started H enc _ => lifted os started H enc)
#print axioms proved
end Go.Proofs.Ytagfgaohdpoegaa.fnExactUncoveredIn
