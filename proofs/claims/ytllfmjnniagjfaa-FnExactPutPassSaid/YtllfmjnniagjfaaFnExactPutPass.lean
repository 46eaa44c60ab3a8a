/-
  Proved here: for every slice of passes and a pass the law laws.FnExactPutPass returns true (impl.PutPass answers as spec.PutPass, writes into no argument, and its answer owns its memory), and the arguments read afterwards as before.
  Conditions: none beyond the row's own.
-/
import Derived.Test.YtllfmjnniagjfaaJl
import Derived.Test.YtllfmjnniagjfaaJm
import Derived.Test.YtllfmjnniagjfaaJe
import Derived.Test.YtllfmjnniagjfaaFb
namespace Go.Proofs.Ytllfmjnniagjfaa.fnExactPutPass
open Go.Joins Go.ChangeShapes Go.WideShapes Go.ChangeAt Go.RowKit Go.Deep
set_option linter.unusedVariables false

/-! ### The walk: the Go text returns true, and nothing that was there has turned. -/
theorem ppR_len (L : List PS) (p : PS) : (ppR L p).length ≤ 13 := by
  unfold ppR
  rcases h : ppG L p with _ | _
  · simp
  · rw [if_pos rfl, ppL_len]
    unfold ppG at h
    rw [Bool.and_eq_true] at h
    have := (good11_of h.1).max
    omega
set_option maxRecDepth 20000 in
set_option maxHeartbeats 6400000 in
theorem walk (A : Option Addr) (n c : Nat) (L : List PS) (p : PS) (w : World) (hs : SdsJ w w.heap.size A n L) (hm : n ≤ maxLen) :
    Calls Try.prog 14 #[.slice A n c, .agg #[.int .i64 p.ln, .int .i64 p.bg, .int .i64 p.en, .int .i64 p.pi, .int .i64 p.bd, .int .i64 p.co]] w fun z w' => z = .returned (.bool true) ∧ Below w.heap.size w w' := by
  by_cases h0 : n ≤ 1048576
  · obtain rfl := hs.1
    have HS := Lib.hid hs
    have HSZ := Lib.hid h0
    have HLN : Hid (L.length ≤ 1048576) := Lib.hid (by omega)
    have hle : 0 ≤ (1048576 : Int) - L.length := by omega
    have hk0 := ppR_len L p
    have HN : Hid ((ppR L p).length ≤ 1048576) := Lib.hid (by omega)
    have HNm : Hid ((ppR L p).length ≤ maxLen) := Lib.hid (by unfold maxLen; omega)
    clear hs h0
    obtain ⟨W0, hW0⟩ : ∃ W0, W0 = w.alloc (.cells #[.int .i64 p.ln, .int .i64 p.bg, .int .i64 p.en, .int .i64 p.pi, .int .i64 p.bd, .int .i64 p.co] 57) := ⟨_, rfl⟩
    have HX0 : Hid (Below w.heap.size w W0 ∧ Has W0 w.heap.size [.int .i64 p.ln, .int .i64 p.bg, .int .i64 p.en, .int .i64 p.pi, .int .i64 p.bd, .int .i64 p.co]) := by rw [hW0]; exact box1 (Below.refl _ _)
    have HE := Lib.hid hW0
    have HXL : Hid (w.heap.size < W0.heap.size) := by rw [hW0]; exact Lib.hid (by simp)
    clear hW0
    go_enter Try.func14, Try.ntmps14
    go_wp2_with fail
    rw [← HE.out]
    have HB0 := Lib.hid HX0.out.1
    have HXX := Lib.hid HX0.out.2
    refine (szS_posJ A _ c _ _ (by omega) (by omega)).mono ?_
    rintro z w' ⟨rfl, rfl⟩
    have a0 := HXX.out.at_ 0 _ rfl
    have a1 := HXX.out.at_ 1 _ rfl
    have a2 := HXX.out.at_ 2 _ rfl
    have a3 := HXX.out.at_ 3 _ rfl
    have a4 := HXX.out.at_ 4 _ rfl
    have a5 := HXX.out.at_ 5 _ rfl
    go_wp2_with fail
    have lc0 := lcell a0
    have lc1 := lcell a1
    have lc2 := lcell a2
    have lc3 := lcell a3
    have lc4 := lcell a4
    have lc5 := lcell a5
    refine region_reads (W := W0) 9 8 [0, 2] (by kernel_rfl) (by kernel_rfl) rfl (Below.refl _ _) (fun d _ _ _ _ h => by cases d <;> exact h) ?_
    simp only [picks, List.getElem?_cons_succ, List.getElem?_cons_zero]
    repeat (go_big_quiet_step (fail))
    refine wpQuiet_nil ?_
    intro w1 hW1
    have hb : Below W0.heap.size W0 w1 := by obtain ⟨x, rfl⟩ := hW1; exact x.below
    have HL1 := Lib.hid hb
    have HZ0 := Lib.hid hb.size
    have HB1 := Lib.hid (bthen HB0.out hb HB0.out.size)
    have Hb_1 := Lib.hid (HXX.out.next hb)
    clear hW1 hb lc0 a0 lc1 a1 lc2 a2 lc3 a3 lc4 a4 lc5 a5
    refine wpAnyN_one (i := 1) (by kernel_rfl) ?_
    refine wpOp_step rfl (fun K hK => ?_)
    rw [if_pos (by rfl)]
    go_simp
    refine (copySs_anyJ A _ c L _ (sds_atJ HS.out HB1.out) HSZ.out).mono ?_
    rintro z w2 ⟨g2, rfl, hF, hb⟩
    have HL2 := Lib.hid (bthen HL1.out hb HL1.out.size)
    have HZ1 := Lib.hid hb.size
    have HB2 := Lib.hid (bthen HB1.out hb HB1.out.size)
    have Hb_2 := Lib.hid (Hb_1.out.next hb)
    have HCs := Lib.hid (sds_of_fillJ hF rfl)
    clear hF
    refine hK _ _ ⟨⟨⟨_, HL2.out⟩, rfl⟩, ?_⟩
    clear hK K hb
    refine wpAnyN_one (i := 3) (by kernel_rfl) ?_
    refine wpOp_step rfl (fun K hK => ?_)
    rw [if_pos (by rfl)]
    go_simp
    refine (toSound_anyJ p _).mono ?_
    rintro z w3 ⟨rfl, hb⟩
    have HL3 := Lib.hid (bthen HL2.out hb HL2.out.size)
    have HZ2 := Lib.hid hb.size
    have HB3 := Lib.hid (bthen HB2.out hb HB2.out.size)
    have Hb_3 := Lib.hid (Hb_2.out.next hb)
    have Hs_4 := Lib.hid (sds_atJ HCs.out hb)
    refine hK _ _ ⟨⟨⟨_, HL3.out⟩, rfl⟩, ?_⟩
    clear hK K hb
    refine wpAnyN_one (i := 4) (by kernel_rfl) ?_
    refine wpOp_step rfl (fun K hK => ?_)
    rw [if_pos (by rfl)]
    go_simp
    refine (put_spec _ _ _ _ L p _ Hs_4.out hm (Nat.le_refl _) hm).mono ?_
    rintro z w4 ⟨AS, cS, rfl, hO, hb⟩
    have HL4 := Lib.hid (bthen HL3.out hb HL3.out.size)
    have HZ3 := Lib.hid hb.size
    have HB4 := Lib.hid (bthen HB3.out hb HB3.out.size)
    have Hb_5 := Lib.hid (Hb_3.out.next hb)
    have Hs_6 := Lib.hid (sds_atJ Hs_4.out hb)
    have HRS := Lib.hid hO
    clear hO
    refine hK _ _ ⟨⟨⟨_, HL4.out⟩, rfl⟩, ?_⟩
    clear hK K hb
    refine wpAnyN_rest [5, 6, 7, 8, 9] rfl (by kernel_rfl) rfl (by kernel_rfl) HL4.out ?_
    simp only [picks, List.getElem?_cons_succ, List.getElem?_cons_zero]
    repeat (go_big_quiet_step (fail))
    refine wpQuiet_nil ?_
    intro w5 hW1
    have hb : Below w4.heap.size w4 w5 := by obtain ⟨x, rfl⟩ := hW1; exact x.below
    have HZ4 := Lib.hid hb.size
    have HB5 := Lib.hid (bthen HB4.out hb HB4.out.size)
    have Hb_7 := Lib.hid (Hb_5.out.next hb)
    have HS_8 := Lib.hid (HRS.out.on hb (Nat.le_refl _))
    clear hW1 hb
    go_wp2_with fail
    refine (copySs_anyJ A _ c L _ (sds_atJ HS.out HB5.out) HSZ.out).mono ?_
    rintro z w6 ⟨g6, rfl, hF, hb⟩
    have HZ5 := Lib.hid hb.size
    have HB6 := Lib.hid (bthen HB5.out hb HB5.out.size)
    have Hb_9 := Lib.hid (Hb_7.out.next hb)
    have HS_10 := Lib.hid (HS_8.out.on hb (by have z4 := HZ4.out; omega))
    have HCx := Lib.hid (sds_of_fillJ hF rfl)
    have HCxo := Lib.hid (ownS_of_fillJ hF rfl)
    clear hF hb
    have a0 := Hb_9.out.at_ 0 _ rfl
    have a1 := Hb_9.out.at_ 1 _ rfl
    have a2 := Hb_9.out.at_ 2 _ rfl
    have a3 := Hb_9.out.at_ 3 _ rfl
    have a4 := Hb_9.out.at_ 4 _ rfl
    have a5 := Hb_9.out.at_ 5 _ rfl
    go_wp2_with fail
    refine (toSound_anyJ p _).mono ?_
    rintro z w7 ⟨rfl, hb⟩
    have HZ6 := Lib.hid hb.size
    have HB7 := Lib.hid (bthen HB6.out hb HB6.out.size)
    have Hb_11 := Lib.hid (Hb_9.out.next hb)
    have HS_12 := Lib.hid (HS_10.out.on hb (by have z4 := HZ4.out; have z5 := HZ5.out; omega))
    have Hx_13 := Lib.hid (sds_atJ HCx.out hb)
    have Hxo_14 := Lib.hid (HCxo.out.on hb (Nat.le_refl _))
    clear hb
    clear a0 a1 a2 a3 a4 a5
    go_wp2_with fail
    refine (put_impl _ _ _ _ L p _ Hx_13.out hm (Nat.le_refl _) hm).mono ?_
    rintro z w8 ⟨AG, cG, rfl, hO, hb⟩
    have HZ7 := Lib.hid hb.size
    have HB8 := Lib.hid (bthen HB7.out hb HB7.out.size)
    have Hb_15 := Lib.hid (Hb_11.out.next hb)
    have HS_16 := Lib.hid (HS_12.out.on hb (by have z4 := HZ4.out; have z5 := HZ5.out; have z6 := HZ6.out; omega))
    have Hx_17 := Lib.hid (sds_atJ Hx_13.out hb)
    have Hxo_18 := Lib.hid (Hxo_14.out.on hb (by have z6 := HZ6.out; omega))
    have HRG := Lib.hid hO
    clear hO
    clear hb
    go_wp2_with fail
    refine (eqSs_sameJ _ _ _ _ _ (ppR L p) _ (HRG.out).sds (HS_16.out).sds HNm.out).mono ?_
    rintro z w9 ⟨rfl, hb⟩
    have HZ8 := Lib.hid hb.size
    have HB9 := Lib.hid (bthen HB8.out hb HB8.out.size)
    have Hb_19 := Lib.hid (Hb_15.out.next hb)
    have HS_20 := Lib.hid (HS_16.out.on hb (by have z4 := HZ4.out; have z5 := HZ5.out; have z6 := HZ6.out; have z7 := HZ7.out; omega))
    have Hx_21 := Lib.hid (sds_atJ Hx_17.out hb)
    have Hxo_22 := Lib.hid (Hxo_18.out.on hb (by have z6 := HZ6.out; have z7 := HZ7.out; omega))
    have HG_23 := Lib.hid (HRG.out.on hb (Nat.le_refl _))
    clear hb
    go_wp2_with fail
    refine (copySs_anyJ A _ c L _ (sds_atJ HS.out HB9.out) HSZ.out).mono ?_
    rintro z w10 ⟨g10, rfl, hF, hb⟩
    have HZ9 := Lib.hid hb.size
    have HB10 := Lib.hid (bthen HB9.out hb HB9.out.size)
    have Hb_24 := Lib.hid (Hb_19.out.next hb)
    have HS_25 := Lib.hid (HS_20.out.on hb (by have z4 := HZ4.out; have z5 := HZ5.out; have z6 := HZ6.out; have z7 := HZ7.out; have z8 := HZ8.out; omega))
    have Hx_26 := Lib.hid (sds_atJ Hx_21.out hb)
    have Hxo_27 := Lib.hid (Hxo_22.out.on hb (by have z6 := HZ6.out; have z7 := HZ7.out; have z8 := HZ8.out; omega))
    have HG_28 := Lib.hid (HG_23.out.on hb (by have z8 := HZ8.out; omega))
    have HCy := Lib.hid (sds_of_fillJ hF rfl)
    clear hF hb
    go_wp2_with fail
    refine (eqSs_sameJ _ _ _ _ _ L _ Hx_26.out HCy.out hm).mono ?_
    rintro z w11 ⟨rfl, hb⟩
    have HZ10 := Lib.hid hb.size
    have HB11 := Lib.hid (bthen HB10.out hb HB10.out.size)
    have Hb_29 := Lib.hid (Hb_24.out.next hb)
    have HS_30 := Lib.hid (HS_25.out.on hb (by have z4 := HZ4.out; have z5 := HZ5.out; have z6 := HZ6.out; have z7 := HZ7.out; have z8 := HZ8.out; have z9 := HZ9.out; omega))
    have Hx_31 := Lib.hid (sds_atJ Hx_26.out hb)
    have Hxo_32 := Lib.hid (Hxo_27.out.on hb (by have z6 := HZ6.out; have z7 := HZ7.out; have z8 := HZ8.out; have z9 := HZ9.out; omega))
    have HG_33 := Lib.hid (HG_28.out.on hb (by have z8 := HZ8.out; have z9 := HZ9.out; omega))
    have Hy_34 := Lib.hid (sds_atJ HCy.out hb)
    clear hb
    go_wp2_with fail
    refine (markS_posJ _ _ _ _ _ _ _ Hxo_32.out HLN.out).mono ?_
    rintro z w12 ⟨⟨m, rfl, hmm⟩, hf⟩
    have hb : Below w5.heap.size w11 w12 := hf.below (Nat.le_refl _) (by have z5 := HZ5.out; have z6 := HZ6.out; have z7 := HZ7.out; have z8 := HZ8.out; have z9 := HZ9.out; have z10 := HZ10.out; omega)
    have HZ11 := Lib.hid hf.size
    have HB12 := Lib.hid (HB11.out.trans (hb.mono HB5.out.size))
    have Hb_35 := Lib.hid (Hb_29.out.on hb (by have z0 := HZ0.out; have z1 := HZ1.out; have z2 := HZ2.out; have z3 := HZ3.out; have z4 := HZ4.out; have z5 := HZ5.out; have z6 := HZ6.out; have z7 := HZ7.out; have z8 := HZ8.out; have z9 := HZ9.out; have z10 := HZ10.out; have zz := HXL.out; omega))
    have HS_36 := Lib.hid (HS_30.out.farB hf (.inl (by have z4 := HZ4.out; omega)))
    have HG_37 := Lib.hid (HG_33.out.farB hf (.inr (by have z6 := HZ6.out; omega)))
    clear hb hf
    go_wp2_with fail
    refine (eqSs_sameJ _ _ _ _ _ (ppR L p) _ (HG_37.out).sds (HS_36.out).sds HNm.out).mono ?_
    rintro z w13 ⟨rfl, hb⟩
    have HZ12 := Lib.hid hb.size
    have HB13 := Lib.hid (bthen HB12.out hb HB12.out.size)
    have Hb_38 := Lib.hid (Hb_35.out.next hb)
    have HS_39 := Lib.hid (HS_36.out.on hb (by have z4 := HZ4.out; have z5 := HZ5.out; have z6 := HZ6.out; have z7 := HZ7.out; have z8 := HZ8.out; have z9 := HZ9.out; have z10 := HZ10.out; have z11 := HZ11.out; omega))
    have HG_40 := Lib.hid (HG_37.out.on hb (by have z8 := HZ8.out; have z9 := HZ9.out; have z10 := HZ10.out; have z11 := HZ11.out; omega))
    clear hb
    go_wp2_with fail
    obtain ⟨K, hK⟩ : ∃ K : Int, ((6 * (ppR L p).length + 1 : Nat) : Int) = K := ⟨_, rfl⟩
    have hk1 : 0 ≤ K := by omega
    have HK := Lib.hid hK
    clear hK
    refine (markS_kJ _ _ _ _ _ _ _ K HK.out HG_40.out HN.out).mono ?_
    rintro z w14 ⟨rfl, hO, hf⟩
    have hb : Below w7.heap.size w13 w14 := hf.below (Nat.le_refl _) (by have z7 := HZ7.out; have z8 := HZ8.out; have z9 := HZ9.out; have z10 := HZ10.out; have z11 := HZ11.out; have z12 := HZ12.out; omega)
    have HZ13 := Lib.hid hf.size
    have HB14 := Lib.hid (HB13.out.trans (hb.mono HB7.out.size))
    have Hb_41 := Lib.hid (Hb_38.out.on hb (by have z0 := HZ0.out; have z1 := HZ1.out; have z2 := HZ2.out; have z3 := HZ3.out; have z4 := HZ4.out; have z5 := HZ5.out; have z6 := HZ6.out; have z7 := HZ7.out; have z8 := HZ8.out; have z9 := HZ9.out; have z10 := HZ10.out; have z11 := HZ11.out; have z12 := HZ12.out; have zz := HXL.out; omega))
    have HS_42 := Lib.hid (HS_39.out.farB hf (.inl (by have z4 := HZ4.out; have z5 := HZ5.out; have z6 := HZ6.out; omega)))
    have HMK := Lib.hid hO
    clear hb hf hO
    go_wp2_with fail
    refine (heldS_kJ _ _ _ _ _ _ K HK.out HMK.out HN.out).mono ?_
    rintro z w' ⟨rfl, rfl⟩
    have a0 := Hb_41.out.at_ 0 _ rfl
    have a1 := Hb_41.out.at_ 1 _ rfl
    have a2 := Hb_41.out.at_ 2 _ rfl
    have a3 := Hb_41.out.at_ 3 _ rfl
    have a4 := Hb_41.out.at_ 4 _ rfl
    have a5 := Hb_41.out.at_ 5 _ rfl
    go_wp2_with fail
    have lc0 := lcell a0
    have lc1 := lcell a1
    have lc2 := lcell a2
    have lc3 := lcell a3
    have lc4 := lcell a4
    have lc5 := lcell a5
    refine region_reads (W := w14) 9 8 [0, 2] (by kernel_rfl) (by kernel_rfl) rfl (Below.refl _ _) (fun d _ _ _ _ h => by cases d <;> exact h) ?_
    simp only [picks, List.getElem?_cons_succ, List.getElem?_cons_zero]
    repeat (go_big_quiet_step (fail))
    refine wpQuiet_nil ?_
    intro w15 hW1
    have hb : Below w14.heap.size w14 w15 := by obtain ⟨x, rfl⟩ := hW1; exact x.below
    have HL15 := Lib.hid hb
    have HZ14 := Lib.hid hb.size
    have HB15 := Lib.hid (bthen HB14.out hb HB14.out.size)
    have Hb_43 := Lib.hid (Hb_41.out.next hb)
    have HS_44 := Lib.hid (HS_42.out.on hb (by have z4 := HZ4.out; have z5 := HZ5.out; have z6 := HZ6.out; have z7 := HZ7.out; have z8 := HZ8.out; have z9 := HZ9.out; have z10 := HZ10.out; have z11 := HZ11.out; have z12 := HZ12.out; have z13 := HZ13.out; omega))
    have HG_45 := Lib.hid (HMK.out.on hb (by have z8 := HZ8.out; have z9 := HZ9.out; have z10 := HZ10.out; have z11 := HZ11.out; have z12 := HZ12.out; have z13 := HZ13.out; omega))
    clear hW1 hb lc0 a0 lc1 a1 lc2 a2 lc3 a3 lc4 a4 lc5 a5
    refine wpAnyN_one (i := 1) (by kernel_rfl) ?_
    refine wpOp_step rfl (fun K hK => ?_)
    rw [if_pos (by rfl)]
    go_simp
    refine (copySs_anyJ A _ c L _ (sds_atJ HS.out HB15.out) HSZ.out).mono ?_
    rintro z w16 ⟨g16, rfl, hF, hb⟩
    have HL16 := Lib.hid (bthen HL15.out hb HL15.out.size)
    have HZ15 := Lib.hid hb.size
    have HB16 := Lib.hid (bthen HB15.out hb HB15.out.size)
    have Hb_46 := Lib.hid (Hb_43.out.next hb)
    have HS_47 := Lib.hid (HS_44.out.on hb (by have z4 := HZ4.out; have z5 := HZ5.out; have z6 := HZ6.out; have z7 := HZ7.out; have z8 := HZ8.out; have z9 := HZ9.out; have z10 := HZ10.out; have z11 := HZ11.out; have z12 := HZ12.out; have z13 := HZ13.out; have z14 := HZ14.out; omega))
    have HG_48 := Lib.hid (HG_45.out.on hb (by have z8 := HZ8.out; have z9 := HZ9.out; have z10 := HZ10.out; have z11 := HZ11.out; have z12 := HZ12.out; have z13 := HZ13.out; have z14 := HZ14.out; omega))
    have HCy := Lib.hid (sds_of_fillJ hF rfl)
    clear hF
    refine hK _ _ ⟨⟨⟨_, HL16.out⟩, rfl⟩, ?_⟩
    clear hK K hb
    refine wpAnyN_one (i := 3) (by kernel_rfl) ?_
    refine wpOp_step rfl (fun K hK => ?_)
    rw [if_pos (by rfl)]
    go_simp
    refine (toSound_anyJ p _).mono ?_
    rintro z w17 ⟨rfl, hb⟩
    have HL17 := Lib.hid (bthen HL16.out hb HL16.out.size)
    have HZ16 := Lib.hid hb.size
    have HB17 := Lib.hid (bthen HB16.out hb HB16.out.size)
    have Hb_49 := Lib.hid (Hb_46.out.next hb)
    have HS_50 := Lib.hid (HS_47.out.on hb (by have z4 := HZ4.out; have z5 := HZ5.out; have z6 := HZ6.out; have z7 := HZ7.out; have z8 := HZ8.out; have z9 := HZ9.out; have z10 := HZ10.out; have z11 := HZ11.out; have z12 := HZ12.out; have z13 := HZ13.out; have z14 := HZ14.out; have z15 := HZ15.out; omega))
    have HG_51 := Lib.hid (HG_48.out.on hb (by have z8 := HZ8.out; have z9 := HZ9.out; have z10 := HZ10.out; have z11 := HZ11.out; have z12 := HZ12.out; have z13 := HZ13.out; have z14 := HZ14.out; have z15 := HZ15.out; omega))
    have Hy_52 := Lib.hid (sds_atJ HCy.out hb)
    refine hK _ _ ⟨⟨⟨_, HL17.out⟩, rfl⟩, ?_⟩
    clear hK K hb
    refine wpAnyN_one (i := 4) (by kernel_rfl) ?_
    refine wpOp_step rfl (fun K hK => ?_)
    rw [if_pos (by rfl)]
    go_simp
    refine (put_impl _ _ _ _ L p _ Hy_52.out hm (Nat.le_refl _) hm).mono ?_
    rintro z w18 ⟨AH, cH, rfl, hO, hb⟩
    have HL18 := Lib.hid (bthen HL17.out hb HL17.out.size)
    have HZ17 := Lib.hid hb.size
    have HB18 := Lib.hid (bthen HB17.out hb HB17.out.size)
    have Hb_53 := Lib.hid (Hb_49.out.next hb)
    have HS_54 := Lib.hid (HS_50.out.on hb (by have z4 := HZ4.out; have z5 := HZ5.out; have z6 := HZ6.out; have z7 := HZ7.out; have z8 := HZ8.out; have z9 := HZ9.out; have z10 := HZ10.out; have z11 := HZ11.out; have z12 := HZ12.out; have z13 := HZ13.out; have z14 := HZ14.out; have z15 := HZ15.out; have z16 := HZ16.out; omega))
    have HG_55 := Lib.hid (HG_51.out.on hb (by have z8 := HZ8.out; have z9 := HZ9.out; have z10 := HZ10.out; have z11 := HZ11.out; have z12 := HZ12.out; have z13 := HZ13.out; have z14 := HZ14.out; have z15 := HZ15.out; have z16 := HZ16.out; omega))
    have Hy_56 := Lib.hid (sds_atJ Hy_52.out hb)
    have HRH := Lib.hid hO
    clear hO
    refine hK _ _ ⟨⟨⟨_, HL18.out⟩, rfl⟩, ?_⟩
    clear hK K hb
    refine wpAnyN_rest [5, 6, 7, 8, 9] rfl (by kernel_rfl) rfl (by kernel_rfl) HL18.out ?_
    simp only [picks, List.getElem?_cons_succ, List.getElem?_cons_zero]
    repeat (go_big_quiet_step (fail))
    refine wpQuiet_nil ?_
    intro w19 hW1
    have hb : Below w18.heap.size w18 w19 := by obtain ⟨x, rfl⟩ := hW1; exact x.below
    have HZ18 := Lib.hid hb.size
    have HB19 := Lib.hid (bthen HB18.out hb HB18.out.size)
    have Hb_57 := Lib.hid (Hb_53.out.next hb)
    have HS_58 := Lib.hid (HS_54.out.on hb (by have z4 := HZ4.out; have z5 := HZ5.out; have z6 := HZ6.out; have z7 := HZ7.out; have z8 := HZ8.out; have z9 := HZ9.out; have z10 := HZ10.out; have z11 := HZ11.out; have z12 := HZ12.out; have z13 := HZ13.out; have z14 := HZ14.out; have z15 := HZ15.out; have z16 := HZ16.out; have z17 := HZ17.out; omega))
    have HG_59 := Lib.hid (HG_55.out.on hb (by have z8 := HZ8.out; have z9 := HZ9.out; have z10 := HZ10.out; have z11 := HZ11.out; have z12 := HZ12.out; have z13 := HZ13.out; have z14 := HZ14.out; have z15 := HZ15.out; have z16 := HZ16.out; have z17 := HZ17.out; omega))
    have HH_60 := Lib.hid (HRH.out.on hb (Nat.le_refl _))
    clear hW1 hb
    go_wp2_with fail
    refine (eqSs_sameJ _ _ _ _ _ (ppR L p) _ (HH_60.out).sds (HS_58.out).sds HNm.out).mono ?_
    rintro z w20 ⟨rfl, hb⟩
    have HZ19 := Lib.hid hb.size
    have HB20 := Lib.hid (bthen HB19.out hb HB19.out.size)
    have Hb_61 := Lib.hid (Hb_57.out.next hb)
    have HS_62 := Lib.hid (HS_58.out.on hb (by have z4 := HZ4.out; have z5 := HZ5.out; have z6 := HZ6.out; have z7 := HZ7.out; have z8 := HZ8.out; have z9 := HZ9.out; have z10 := HZ10.out; have z11 := HZ11.out; have z12 := HZ12.out; have z13 := HZ13.out; have z14 := HZ14.out; have z15 := HZ15.out; have z16 := HZ16.out; have z17 := HZ17.out; have z18 := HZ18.out; omega))
    have HG_63 := Lib.hid (HG_59.out.on hb (by have z8 := HZ8.out; have z9 := HZ9.out; have z10 := HZ10.out; have z11 := HZ11.out; have z12 := HZ12.out; have z13 := HZ13.out; have z14 := HZ14.out; have z15 := HZ15.out; have z16 := HZ16.out; have z17 := HZ17.out; have z18 := HZ18.out; omega))
    have HH_64 := Lib.hid (HH_60.out.on hb (by have z18 := HZ18.out; omega))
    clear hb
    go_wp2_with fail
    refine (heldS_kJ _ _ _ _ _ _ K HK.out HG_63.out HN.out).mono ?_
    rintro z w' ⟨rfl, rfl⟩
    go_wp2_with fail
    go_ret
    exact ⟨rfl, HB20.out⟩
  · go_enter Try.func14, Try.ntmps14
    go_wp2_with fail
    refine (szS_negJ A n c _ _ (by omega) (by omega) (by omega) hm).mono ?_
    rintro e w1 ⟨rfl, rfl⟩
    go_wp2_with fail
    go_ret
    exact ⟨rfl, (Below.refl _ _).alloc (Nat.le_refl _) _⟩

/-! ### The row's step. -/
set_option maxRecDepth 100000 in
theorem lifted (os : Os) (started : os.Started) (H : Type) (enc : TypeId × Value → H) :
    ReturnsInHanded {} Try.checked os 14 .any (Rows.fnExactPutPassSpec.pre6 enc Try.prog Try.f14 Rows.fnExactPutPassRow.domain false) (Rows.fnExactPutPassSpec.post enc Try.prog Try.f14 false true false false) := by
  refine returnsInHanded_of_change (C := Try.checked) own started (by kernel_rfl) Try.func14
    (ChangeSpec.witness6 (enc := enc) (C := Try.checked) false ⟨#[], #[.slice none 0 0, .agg #[.int .i64 0, .int .i64 0, .int .i64 0, .int .i64 0, .int .i64 0, .int .i64 0]], []⟩ 8 (by kernel_rfl) (by kernel_rfl) (by kernel_rfl) (by kernel_rfl)) ?_
  intro W base args ds gs before hval0 hW hcnd _
  have hval : ∀ (j : Nat) t v, Try.f14.params[j]? = some t → args[j]? = some v → Value.okWide Try.prog W .any base t v := hval0
  have hW' := hW
  obtain ⟨p, q, hA0, hV, rfl, hfz, hnd⟩ := hW
  have hA : DataW.TrodAll enc Try.prog W 0 (fun _ => true) true Try.f14.params.toList args.toList ds p := hA0
  rw [Try.params14] at hA hval
  obtain ⟨v0, vs0, d0, ds0, p0, q0, hargs, rfl, rfl, h0, r0⟩ := trodAll_cons hA
  obtain ⟨v1, vs1, d1, ds1, p1, q1, rfl, rfl, rfl, h1, r1⟩ := trodAll_cons r0
  obtain ⟨rfl, rfl, rfl⟩ := trodAll_nil r1
  obtain rfl : args = #[v0, v1] := by cases args; simp_all
  obtain ⟨rfl, rfl⟩ := trodVars_none hV
  have k0 := h0
  have lt0 : ∀ x ∈ p0, x.block < W.heap.size := by obtain ⟨m, hm⟩ := k0; exact DataW.trod_lt m _ _ _ hm
  obtain ⟨A0, n0, c0, rfl⟩ := okWide_slice Try.underlying60 (hval 0 60 v0 rfl rfl)
  obtain ⟨m0, l0, w0⟩ := open_linesJ h0
  have k1 := h1
  have lt1 : ∀ x ∈ p1, x.block < W.heap.size := by obtain ⟨m, hm⟩ := k1; exact DataW.trod_lt m _ _ _ hm
  obtain ⟨v1, rfl⟩ := open_lineJ (hval 1 57 v1 rfl rfl) h1
  clear hA0 hval0
  refine (walk A0 n0 c0 l0 v1 W w0 m0).mono fun e W1 ⟨he, bel⟩ => ?_
  subst he
  exact ⟨_, rfl, _, _, _, [], _, [], hW', trodAll_mk1 (shut_bool Try.underlying4 _), (trodAll_cons_mk (Below.trod laidOut (by kernel_rfl) (of_decide_eq_true (by kernel_rfl)) k0 bel lt0) (trodAll_cons_mk (Below.trod laidOut (by kernel_rfl) (of_decide_eq_true (by kernel_rfl)) k1 bel lt1) trodAll_mk0)), rfl, bel.frame _, fun h => by cases h⟩

/-- The statement. -/
theorem proved : Rows.FnExactPutPassSaid :=
  OpenClaim.holds_of_wide 14 Try.f14 rfl rfl rfl rfl rfl rfl rfl ⟨rfl, rfl, rfl, rfl, rfl⟩ rfl rfl rfl rfl rfl (by kernel_rfl) Try.func14 (by kernel_rfl)
    (of_decide_eq_true (by kernel_rfl)) (by unfold Func.isWrapper; first | (rw [if_pos (by decide +kernel)]; kernel_rfl) | (rw [if_neg (by decide +kernel)]; exact ⟨rfl, rfl⟩))
    (fun os started H enc _ => lifted os started H enc)
#print axioms proved
end Go.Proofs.Ytllfmjnniagjfaa.fnExactPutPass
