/-
  Proved here: for every slice of passes and slice of numbers the law laws.FnExactLinesToRepeat returns true (impl.LinesToRepeat answers as spec.LinesToRepeat, writes into no argument, and its answer owns its memory), and the arguments read afterwards as before.
  Conditions: none beyond the row's own.
-/
import Derived.Test.YtllfmjnniagjfaaJl
import Derived.Test.YtllfmjnniagjfaaJm
import Derived.Test.YtllfmjnniagjfaaJb
import Derived.Test.YtllfmjnniagjfaaJk
import Derived.Test.YtllfmjnniagjfaaIi
import Derived.Test.YtllfmjnniagjfaaFb
import Derived.Test.YtllfmjnniagjfaaSj
namespace Go.Proofs.Ytllfmjnniagjfaa.fnExactLinesToRepeat
open Go.Joins Go.ChangeShapes Go.WideShapes Go.ChangeAt Go.RowKit Go.Deep
set_option linter.unusedVariables false

/-! ### The walk: the Go text returns true, and nothing that was there has turned. -/
theorem _root_.Go.Proofs.Ytllfmjnniagjfaa.IFun.farB9 {w w' : World} {lo hi lo' hi' n : Nat} {A : Option Addr} {f : Nat → Int} (h : IFun w lo hi A n f) (hf : FarB lo' hi' w w') (hs : hi ≤ w.heap.size) (hd : hi ≤ lo' ∨ hi' ≤ lo) : IFun w' lo hi A n f := fun k hk => by
  obtain ⟨g, hA, h1, h2, hc, hz⟩ := h k hk
  have hb := hf.block g (by omega) (by omega)
  exact ⟨g, hA, h1, h2, (World.cell?_of_block (a := ⟨g, _, none⟩) hb).trans hc, (World.frozen?_of_block (a := ⟨g, _, none⟩) hb).trans hz⟩
set_option maxHeartbeats 1600000 in
theorem markI_pos (A : Option Addr) (n c lo hi : Nat) (f : Nat → Int) (w : World) (m : Int) (hm9 : m ≤ 1000000000000) (h : IFun w lo hi A n f) (hn : n ≤ 1048576) (hm : 0 ≤ m) :
    Calls Try.prog 53 #[.slice A n c, .int .i64 m] w fun e w' => (∃ m2 : Int, e = .returned (.int .i64 m2) ∧ 0 ≤ m2) ∧ Far lo hi w w' := by
  obtain ⟨k, rfl⟩ : ∃ k : Nat, m = k := ⟨m.toNat, by omega⟩
  refine (markI_from A n c lo hi k f w h hn (by omega)).mono ?_
  rintro e w' ⟨rfl, _, hf⟩
  exact ⟨⟨_, rfl, by omega⟩, hf⟩
theorem markS_pos9 (A : Option Addr) (n c lo hi : Nat) (L : List PS) (w : World) (h : OwnSJ w lo hi A n L) (hm : n ≤ 1048576) :
    Calls Try.prog 52 #[.slice A n c, .int .i64 1] w fun e w' => (∃ m : Int, e = .returned (.int .i64 m) ∧ 0 ≤ m ∧ m ≤ 1000000000000) ∧ FarB lo hi w w' := by
  refine (markS_kJ A n c lo hi L w _ rfl h hm).mono ?_
  rintro e w' ⟨rfl, _, hf⟩
  exact ⟨⟨_, rfl, by omega, by omega⟩, hf⟩
theorem lrR_len (L : List PS) (P : List Int) : (lrR L P).length ≤ P.length := by
  unfold lrR
  split
  · exact List.length_filter_le _ _
  · simp
set_option maxRecDepth 20000 in
set_option maxHeartbeats 6400000 in
theorem walk (A : Option Addr) (n c : Nat) (L : List PS) (Ap : Option Addr) (np cp : Nat) (P : List Int) (w : World) (hs : SdsJ w w.heap.size A n L) (hm : n ≤ maxLen) (hp : ISeq w w.heap.size Ap np P) (hpm : np ≤ maxLen) :
    Calls Try.prog 11 #[.slice A n c, .slice Ap np cp] w fun z w' => z = .returned (.bool true) ∧ Below w.heap.size w w' := by
  obtain rfl := hp.1
  by_cases hpn : (1048576 : Int) < P.length
  · go_enter Try.func11, Try.ntmps11
    go_wp2_with fail
    go_ret
    exact ⟨rfl, Below.refl _ _⟩
  have HP := Lib.hid hp
  have HPN : Hid (P.length ≤ 1048576) := Lib.hid (by omega)
  clear hp
  by_cases h0 : n ≤ 1048576
  · obtain rfl := hs.1
    have HS := Lib.hid hs
    have HSZ := Lib.hid h0
    have HLN : Hid (L.length ≤ 1048576) := Lib.hid (by omega)
    have hle : 0 ≤ (1048576 : Int) - L.length := by omega
    have hk1 := lrR_len L P
    have HN : Hid ((lrR L P).length ≤ 1048576) := Lib.hid (by have := HPN.out; omega)
    clear hs h0
    have HB0 := Lib.hid (Below.refl w.heap.size w)
    go_enter Try.func11, Try.ntmps11
    go_wp2_with fail
    refine (szS_posJ A _ c _ _ (by omega) (by omega)).mono ?_
    rintro z w' ⟨rfl, rfl⟩
    go_wp2_with fail
    refine (copySs_anyJ A _ c L _ (sds_atJ HS.out HB0.out) HSZ.out).mono ?_
    rintro z w1 ⟨g1, rfl, hF, hb⟩
    have HZ0 := Lib.hid hb.size
    have HB1 := Lib.hid (bthen HB0.out hb HB0.out.size)
    have HCs := Lib.hid (sds_of_fillJ hF rfl)
    clear hF hb
    go_wp2_with fail
    refine (copyI_any Ap _ cp P _ (iseq_at HP.out HB1.out) HPN.out).mono ?_
    rintro z w2 ⟨gi2, rfl, hO, hb⟩
    have HZ1 := Lib.hid hb.size
    have HB2 := Lib.hid (bthen HB1.out hb HB1.out.size)
    have Hs_1 := Lib.hid (sds_atJ HCs.out hb)
    have HIq := Lib.hid hO
    clear hO
    clear hb
    go_wp2_with fail
    refine (repeat_spec _ _ _ L _ _ P _ Hs_1.out hm ((HIq.out).wide (Nat.zero_le _) (Nat.le_refl _)) HPN.out).mono ?_
    rintro z w3 ⟨AS, cS, rfl, hO, hb⟩
    have HZ2 := Lib.hid hb.size
    have HB3 := Lib.hid (bthen HB2.out hb HB2.out.size)
    have Hs_2 := Lib.hid (sds_atJ Hs_1.out hb)
    have Hq_3 := Lib.hid (HIq.out.on hb (Nat.le_refl _))
    have HRS := Lib.hid hO
    clear hO
    clear hb
    go_wp2_with fail
    refine (copySs_anyJ A _ c L _ (sds_atJ HS.out HB3.out) HSZ.out).mono ?_
    rintro z w4 ⟨g4, rfl, hF, hb⟩
    have HZ3 := Lib.hid hb.size
    have HB4 := Lib.hid (bthen HB3.out hb HB3.out.size)
    have HS_4 := Lib.hid (HRS.out.on hb (Nat.le_refl _))
    have HCx := Lib.hid (sds_of_fillJ hF rfl)
    have HCxo := Lib.hid (ownS_of_fillJ hF rfl)
    clear hF hb
    go_wp2_with fail
    refine (copyI_any Ap _ cp P _ (iseq_at HP.out HB4.out) HPN.out).mono ?_
    rintro z w5 ⟨gi5, rfl, hO, hb⟩
    have HZ4 := Lib.hid hb.size
    have HB5 := Lib.hid (bthen HB4.out hb HB4.out.size)
    have HS_5 := Lib.hid (HS_4.out.on hb (by have z3 := HZ3.out; omega))
    have Hx_6 := Lib.hid (sds_atJ HCx.out hb)
    have Hxo_7 := Lib.hid (HCxo.out.on hb (Nat.le_refl _))
    have HIp := Lib.hid hO
    clear hO
    clear hb
    go_wp2_with fail
    refine (repeat_impl _ _ _ L _ _ P _ Hx_6.out hm ((HIp.out).wide (Nat.zero_le _) (Nat.le_refl _)) HPN.out).mono ?_
    rintro z w6 ⟨AG, cG, rfl, hO, hb⟩
    have HZ5 := Lib.hid hb.size
    have HB6 := Lib.hid (bthen HB5.out hb HB5.out.size)
    have HS_8 := Lib.hid (HS_5.out.on hb (by have z3 := HZ3.out; have z4 := HZ4.out; omega))
    have Hx_9 := Lib.hid (sds_atJ Hx_6.out hb)
    have Hxo_10 := Lib.hid (Hxo_7.out.on hb (by have z4 := HZ4.out; omega))
    have Hp_11 := Lib.hid (HIp.out.on hb (Nat.le_refl _))
    have HRG := Lib.hid hO
    clear hO
    clear hb
    go_wp2_with fail
    refine (eqI_same _ _ _ _ _ _ _ _ _ _ _ HRG.out HS_8.out HN.out).mono ?_
    rintro z w7 ⟨rfl, dk, hdk⟩
    have hb : Below w6.heap.size w6 w7 := by rw [hdk]; exact bdrewN (Below.refl _ _) _
    clear hdk
    have HZ6 := Lib.hid hb.size
    have HB7 := Lib.hid (bthen HB6.out hb HB6.out.size)
    have HS_12 := Lib.hid (HS_8.out.on hb (by have z3 := HZ3.out; have z4 := HZ4.out; have z5 := HZ5.out; omega))
    have Hx_13 := Lib.hid (sds_atJ Hx_9.out hb)
    have Hxo_14 := Lib.hid (Hxo_10.out.on hb (by have z4 := HZ4.out; have z5 := HZ5.out; omega))
    have Hp_15 := Lib.hid (Hp_11.out.on hb (by have z5 := HZ5.out; omega))
    have HG_16 := Lib.hid (HRG.out.on hb (Nat.le_refl _))
    clear hb
    go_wp2_with fail
    refine (copySs_anyJ A _ c L _ (sds_atJ HS.out HB7.out) HSZ.out).mono ?_
    rintro z w8 ⟨g8, rfl, hF, hb⟩
    have HZ7 := Lib.hid hb.size
    have HB8 := Lib.hid (bthen HB7.out hb HB7.out.size)
    have HS_17 := Lib.hid (HS_12.out.on hb (by have z3 := HZ3.out; have z4 := HZ4.out; have z5 := HZ5.out; have z6 := HZ6.out; omega))
    have Hx_18 := Lib.hid (sds_atJ Hx_13.out hb)
    have Hxo_19 := Lib.hid (Hxo_14.out.on hb (by have z4 := HZ4.out; have z5 := HZ5.out; have z6 := HZ6.out; omega))
    have Hp_20 := Lib.hid (Hp_15.out.on hb (by have z5 := HZ5.out; have z6 := HZ6.out; omega))
    have HG_21 := Lib.hid (HG_16.out.on hb (by have z6 := HZ6.out; omega))
    have HCy := Lib.hid (sds_of_fillJ hF rfl)
    clear hF hb
    go_wp2_with fail
    refine (eqSs_sameJ _ _ _ _ _ L _ Hx_18.out HCy.out hm).mono ?_
    rintro z w9 ⟨rfl, hb⟩
    have HZ8 := Lib.hid hb.size
    have HB9 := Lib.hid (bthen HB8.out hb HB8.out.size)
    have HS_22 := Lib.hid (HS_17.out.on hb (by have z3 := HZ3.out; have z4 := HZ4.out; have z5 := HZ5.out; have z6 := HZ6.out; have z7 := HZ7.out; omega))
    have Hx_23 := Lib.hid (sds_atJ Hx_18.out hb)
    have Hxo_24 := Lib.hid (Hxo_19.out.on hb (by have z4 := HZ4.out; have z5 := HZ5.out; have z6 := HZ6.out; have z7 := HZ7.out; omega))
    have Hp_25 := Lib.hid (Hp_20.out.on hb (by have z5 := HZ5.out; have z6 := HZ6.out; have z7 := HZ7.out; omega))
    have HG_26 := Lib.hid (HG_21.out.on hb (by have z6 := HZ6.out; have z7 := HZ7.out; omega))
    have Hy_27 := Lib.hid (sds_atJ HCy.out hb)
    clear hb
    go_wp2_with fail
    refine (copyI_any Ap _ cp P _ (iseq_at HP.out HB9.out) HPN.out).mono ?_
    rintro z w10 ⟨gi10, rfl, hO, hb⟩
    have HZ9 := Lib.hid hb.size
    have HB10 := Lib.hid (bthen HB9.out hb HB9.out.size)
    have HS_28 := Lib.hid (HS_22.out.on hb (by have z3 := HZ3.out; have z4 := HZ4.out; have z5 := HZ5.out; have z6 := HZ6.out; have z7 := HZ7.out; have z8 := HZ8.out; omega))
    have Hxo_29 := Lib.hid (Hxo_24.out.on hb (by have z4 := HZ4.out; have z5 := HZ5.out; have z6 := HZ6.out; have z7 := HZ7.out; have z8 := HZ8.out; omega))
    have Hp_30 := Lib.hid (Hp_25.out.on hb (by have z5 := HZ5.out; have z6 := HZ6.out; have z7 := HZ7.out; have z8 := HZ8.out; omega))
    have HG_31 := Lib.hid (HG_26.out.on hb (by have z6 := HZ6.out; have z7 := HZ7.out; have z8 := HZ8.out; omega))
    have HIr := Lib.hid hO
    clear hO
    clear hb
    go_wp2_with fail
    refine (eqI_same _ _ _ _ _ _ _ _ _ _ _ Hp_30.out HIr.out HPN.out).mono ?_
    rintro z w11 ⟨rfl, dk, hdk⟩
    have hb : Below w10.heap.size w10 w11 := by rw [hdk]; exact bdrewN (Below.refl _ _) _
    clear hdk
    have HZ10 := Lib.hid hb.size
    have HB11 := Lib.hid (bthen HB10.out hb HB10.out.size)
    have HS_32 := Lib.hid (HS_28.out.on hb (by have z3 := HZ3.out; have z4 := HZ4.out; have z5 := HZ5.out; have z6 := HZ6.out; have z7 := HZ7.out; have z8 := HZ8.out; have z9 := HZ9.out; omega))
    have Hxo_33 := Lib.hid (Hxo_29.out.on hb (by have z4 := HZ4.out; have z5 := HZ5.out; have z6 := HZ6.out; have z7 := HZ7.out; have z8 := HZ8.out; have z9 := HZ9.out; omega))
    have Hp_34 := Lib.hid (Hp_30.out.on hb (by have z5 := HZ5.out; have z6 := HZ6.out; have z7 := HZ7.out; have z8 := HZ8.out; have z9 := HZ9.out; omega))
    have HG_35 := Lib.hid (HG_31.out.on hb (by have z6 := HZ6.out; have z7 := HZ7.out; have z8 := HZ8.out; have z9 := HZ9.out; omega))
    have Hr_36 := Lib.hid (HIr.out.on hb (Nat.le_refl _))
    clear hb
    go_wp2_with fail
    refine (markS_pos9 _ _ _ _ _ _ _ Hxo_33.out HLN.out).mono ?_
    rintro z w12 ⟨⟨m, rfl, hmm, hm9⟩, hf⟩
    have hb : Below w3.heap.size w11 w12 := hf.below (Nat.le_refl _) (by have z3 := HZ3.out; have z4 := HZ4.out; have z5 := HZ5.out; have z6 := HZ6.out; have z7 := HZ7.out; have z8 := HZ8.out; have z9 := HZ9.out; have z10 := HZ10.out; omega)
    have HZ11 := Lib.hid hf.size
    have HB12 := Lib.hid (HB11.out.trans (hb.mono HB3.out.size))
    have HS_37 := Lib.hid (HS_32.out.farB9 hf (by have z3 := HZ3.out; have z4 := HZ4.out; have z5 := HZ5.out; have z6 := HZ6.out; have z7 := HZ7.out; have z8 := HZ8.out; have z9 := HZ9.out; have z10 := HZ10.out; omega) (.inl (Nat.le_refl _)))
    have Hp_38 := Lib.hid (Hp_34.out.farB9 hf (by have z5 := HZ5.out; have z6 := HZ6.out; have z7 := HZ7.out; have z8 := HZ8.out; have z9 := HZ9.out; have z10 := HZ10.out; omega) (.inr (Nat.le_refl _)))
    have HG_39 := Lib.hid (HG_35.out.farB9 hf (by have z6 := HZ6.out; have z7 := HZ7.out; have z8 := HZ8.out; have z9 := HZ9.out; have z10 := HZ10.out; omega) (.inr (by have z4 := HZ4.out; omega)))
    clear hb hf
    go_wp2_with fail
    refine (markI_pos _ _ _ _ _ _ _ m hm9 Hp_38.out HPN.out hmm).mono ?_
    rintro z w13 ⟨⟨m2, rfl, hmm2⟩, hf⟩
    have hb : Below w4.heap.size w12 w13 := hf.below (Nat.le_refl _) (by have z4 := HZ4.out; have z5 := HZ5.out; have z6 := HZ6.out; have z7 := HZ7.out; have z8 := HZ8.out; have z9 := HZ9.out; have z10 := HZ10.out; have z11 := HZ11.out; omega)
    have HZ12 := Lib.hid (Nat.le_of_eq hf.size.symm)
    have HB13 := Lib.hid (HB12.out.trans (hb.mono HB4.out.size))
    have HS_40 := Lib.hid (HS_37.out.far hf (by have z3 := HZ3.out; have z4 := HZ4.out; have z5 := HZ5.out; have z6 := HZ6.out; have z7 := HZ7.out; have z8 := HZ8.out; have z9 := HZ9.out; have z10 := HZ10.out; have z11 := HZ11.out; omega) (.inl (by have z3 := HZ3.out; omega)))
    have HG_41 := Lib.hid (HG_39.out.far hf (by have z6 := HZ6.out; have z7 := HZ7.out; have z8 := HZ8.out; have z9 := HZ9.out; have z10 := HZ10.out; have z11 := HZ11.out; omega) (.inr (Nat.le_refl _)))
    clear hb hf
    go_wp2_with fail
    refine (eqI_same _ _ _ _ _ _ _ _ _ _ _ HG_41.out HS_40.out HN.out).mono ?_
    rintro z w14 ⟨rfl, dk, hdk⟩
    have hb : Below w13.heap.size w13 w14 := by rw [hdk]; exact bdrewN (Below.refl _ _) _
    clear hdk
    have HZ13 := Lib.hid hb.size
    have HB14 := Lib.hid (bthen HB13.out hb HB13.out.size)
    have HS_42 := Lib.hid (HS_40.out.on hb (by have z3 := HZ3.out; have z4 := HZ4.out; have z5 := HZ5.out; have z6 := HZ6.out; have z7 := HZ7.out; have z8 := HZ8.out; have z9 := HZ9.out; have z10 := HZ10.out; have z11 := HZ11.out; have z12 := HZ12.out; omega))
    have HG_43 := Lib.hid (HG_41.out.on hb (by have z6 := HZ6.out; have z7 := HZ7.out; have z8 := HZ8.out; have z9 := HZ9.out; have z10 := HZ10.out; have z11 := HZ11.out; have z12 := HZ12.out; omega))
    clear hb
    go_wp2_with fail
    refine (markI_any _ _ _ _ _ _ _ HG_43.out HN.out).mono ?_
    rintro z w15 ⟨rfl, hO, hf⟩
    have hb : Below w5.heap.size w14 w15 := hf.below (Nat.le_refl _) (by have z5 := HZ5.out; have z6 := HZ6.out; have z7 := HZ7.out; have z8 := HZ8.out; have z9 := HZ9.out; have z10 := HZ10.out; have z11 := HZ11.out; have z12 := HZ12.out; have z13 := HZ13.out; omega)
    have HZ14 := Lib.hid (Nat.le_of_eq hf.size.symm)
    have HB15 := Lib.hid (HB14.out.trans (hb.mono HB5.out.size))
    have HS_44 := Lib.hid (HS_42.out.far hf (by have z3 := HZ3.out; have z4 := HZ4.out; have z5 := HZ5.out; have z6 := HZ6.out; have z7 := HZ7.out; have z8 := HZ8.out; have z9 := HZ9.out; have z10 := HZ10.out; have z11 := HZ11.out; have z12 := HZ12.out; have z13 := HZ13.out; omega) (.inl (by have z3 := HZ3.out; have z4 := HZ4.out; omega)))
    have HMK := Lib.hid hO
    clear hb hf hO
    go_wp2_with fail
    refine (heldI_any _ _ _ _ _ _ HMK.out HN.out).mono ?_
    rintro z w' ⟨rfl, rfl⟩
    go_wp2_with fail
    refine (copySs_anyJ A _ c L _ (sds_atJ HS.out HB15.out) HSZ.out).mono ?_
    rintro z w16 ⟨g16, rfl, hF, hb⟩
    have HZ15 := Lib.hid hb.size
    have HB16 := Lib.hid (bthen HB15.out hb HB15.out.size)
    have HS_45 := Lib.hid (HS_44.out.on hb (by have z3 := HZ3.out; have z4 := HZ4.out; have z5 := HZ5.out; have z6 := HZ6.out; have z7 := HZ7.out; have z8 := HZ8.out; have z9 := HZ9.out; have z10 := HZ10.out; have z11 := HZ11.out; have z12 := HZ12.out; have z13 := HZ13.out; have z14 := HZ14.out; omega))
    have HG_46 := Lib.hid (HMK.out.on hb (by have z6 := HZ6.out; have z7 := HZ7.out; have z8 := HZ8.out; have z9 := HZ9.out; have z10 := HZ10.out; have z11 := HZ11.out; have z12 := HZ12.out; have z13 := HZ13.out; have z14 := HZ14.out; omega))
    have HCy := Lib.hid (sds_of_fillJ hF rfl)
    clear hF hb
    go_wp2_with fail
    refine (copyI_any Ap _ cp P _ (iseq_at HP.out HB16.out) HPN.out).mono ?_
    rintro z w17 ⟨gi17, rfl, hO, hb⟩
    have HZ16 := Lib.hid hb.size
    have HB17 := Lib.hid (bthen HB16.out hb HB16.out.size)
    have HS_47 := Lib.hid (HS_45.out.on hb (by have z3 := HZ3.out; have z4 := HZ4.out; have z5 := HZ5.out; have z6 := HZ6.out; have z7 := HZ7.out; have z8 := HZ8.out; have z9 := HZ9.out; have z10 := HZ10.out; have z11 := HZ11.out; have z12 := HZ12.out; have z13 := HZ13.out; have z14 := HZ14.out; have z15 := HZ15.out; omega))
    have HG_48 := Lib.hid (HG_46.out.on hb (by have z6 := HZ6.out; have z7 := HZ7.out; have z8 := HZ8.out; have z9 := HZ9.out; have z10 := HZ10.out; have z11 := HZ11.out; have z12 := HZ12.out; have z13 := HZ13.out; have z14 := HZ14.out; have z15 := HZ15.out; omega))
    have Hy_49 := Lib.hid (sds_atJ HCy.out hb)
    have HIr := Lib.hid hO
    clear hO
    clear hb
    go_wp2_with fail
    refine (repeat_impl _ _ _ L _ _ P _ Hy_49.out hm ((HIr.out).wide (Nat.zero_le _) (Nat.le_refl _)) HPN.out).mono ?_
    rintro z w18 ⟨AH, cH, rfl, hO, hb⟩
    have HZ17 := Lib.hid hb.size
    have HB18 := Lib.hid (bthen HB17.out hb HB17.out.size)
    have HS_50 := Lib.hid (HS_47.out.on hb (by have z3 := HZ3.out; have z4 := HZ4.out; have z5 := HZ5.out; have z6 := HZ6.out; have z7 := HZ7.out; have z8 := HZ8.out; have z9 := HZ9.out; have z10 := HZ10.out; have z11 := HZ11.out; have z12 := HZ12.out; have z13 := HZ13.out; have z14 := HZ14.out; have z15 := HZ15.out; have z16 := HZ16.out; omega))
    have HG_51 := Lib.hid (HG_48.out.on hb (by have z6 := HZ6.out; have z7 := HZ7.out; have z8 := HZ8.out; have z9 := HZ9.out; have z10 := HZ10.out; have z11 := HZ11.out; have z12 := HZ12.out; have z13 := HZ13.out; have z14 := HZ14.out; have z15 := HZ15.out; have z16 := HZ16.out; omega))
    have Hy_52 := Lib.hid (sds_atJ Hy_49.out hb)
    have Hr_53 := Lib.hid (HIr.out.on hb (Nat.le_refl _))
    have HRH := Lib.hid hO
    clear hO
    clear hb
    go_wp2_with fail
    refine (eqI_same _ _ _ _ _ _ _ _ _ _ _ HRH.out HS_50.out HN.out).mono ?_
    rintro z w19 ⟨rfl, dk, hdk⟩
    have hb : Below w18.heap.size w18 w19 := by rw [hdk]; exact bdrewN (Below.refl _ _) _
    clear hdk
    have HZ18 := Lib.hid hb.size
    have HB19 := Lib.hid (bthen HB18.out hb HB18.out.size)
    have HS_54 := Lib.hid (HS_50.out.on hb (by have z3 := HZ3.out; have z4 := HZ4.out; have z5 := HZ5.out; have z6 := HZ6.out; have z7 := HZ7.out; have z8 := HZ8.out; have z9 := HZ9.out; have z10 := HZ10.out; have z11 := HZ11.out; have z12 := HZ12.out; have z13 := HZ13.out; have z14 := HZ14.out; have z15 := HZ15.out; have z16 := HZ16.out; have z17 := HZ17.out; omega))
    have HG_55 := Lib.hid (HG_51.out.on hb (by have z6 := HZ6.out; have z7 := HZ7.out; have z8 := HZ8.out; have z9 := HZ9.out; have z10 := HZ10.out; have z11 := HZ11.out; have z12 := HZ12.out; have z13 := HZ13.out; have z14 := HZ14.out; have z15 := HZ15.out; have z16 := HZ16.out; have z17 := HZ17.out; omega))
    have HH_56 := Lib.hid (HRH.out.on hb (Nat.le_refl _))
    clear hb
    go_wp2_with fail
    refine (heldI_any _ _ _ _ _ _ HG_55.out HN.out).mono ?_
    rintro z w' ⟨rfl, rfl⟩
    go_wp2_with fail
    go_ret
    exact ⟨rfl, HB19.out⟩
  · go_enter Try.func11, Try.ntmps11
    go_wp2_with fail
    refine (szS_negJ A n c _ _ (by omega) (by omega) (by omega) hm).mono ?_
    rintro e w1 ⟨rfl, rfl⟩
    go_wp2_with fail
    go_ret
    exact ⟨rfl, Below.refl _ _⟩

/-! ### The row's step. -/
set_option maxRecDepth 100000 in
theorem lifted (os : Os) (started : os.Started) (H : Type) (enc : TypeId × Value → H) :
    ReturnsInHanded {} Try.checked os 11 .any (Rows.fnExactLinesToRepeatSpec.pre6 enc Try.prog Try.f11 Rows.fnExactLinesToRepeatRow.domain false) (Rows.fnExactLinesToRepeatSpec.post enc Try.prog Try.f11 false true false false) := by
  refine returnsInHanded_of_change (C := Try.checked) own started (by kernel_rfl) Try.func11
    (ChangeSpec.witness6 (enc := enc) (C := Try.checked) false ⟨#[], #[.slice none 0 0, .slice none 0 0], []⟩ 8 (by kernel_rfl) (by kernel_rfl) (by kernel_rfl) (by kernel_rfl)) ?_
  intro W base args ds gs before hval0 hW hcnd _
  have hval : ∀ (j : Nat) t v, Try.f11.params[j]? = some t → args[j]? = some v → Value.okWide Try.prog W .any base t v := hval0
  have hW' := hW
  obtain ⟨p, q, hA0, hV, rfl, hfz, hnd⟩ := hW
  have hA : DataW.TrodAll enc Try.prog W 0 (fun _ => true) true Try.f11.params.toList args.toList ds p := hA0
  rw [Try.params11] at hA hval
  obtain ⟨v0, vs0, d0, ds0, p0, q0, hargs, rfl, rfl, h0, r0⟩ := trodAll_cons hA
  obtain ⟨v1, vs1, d1, ds1, p1, q1, rfl, rfl, rfl, h1, r1⟩ := trodAll_cons r0
  obtain ⟨rfl, rfl, rfl⟩ := trodAll_nil r1
  obtain rfl : args = #[v0, v1] := by cases args; simp_all
  obtain ⟨rfl, rfl⟩ := trodVars_none hV
  have k0 := h0
  have lt0 : ∀ x ∈ p0, x.block < W.heap.size := by obtain ⟨m, hm⟩ := k0; exact DataW.trod_lt m _ _ _ hm
  obtain ⟨A0, n0, c0, rfl⟩ := okWide_slice Try.underlying60 (hval 0 60 v0 rfl rfl)
  obtain ⟨m0, l0, w0⟩ := open_linesJ h0
  have k1 := h1
  have lt1 : ∀ x ∈ p1, x.block < W.heap.size := by obtain ⟨m, hm⟩ := k1; exact DataW.trod_lt m _ _ _ hm
  obtain ⟨A1, n1, c1, rfl⟩ := okWide_slice Try.underlying25 (hval 1 25 v1 rfl rfl)
  obtain ⟨m1, l1, w1⟩ := open_intsJ h1
  clear hA0 hval0
  refine (walk A0 n0 c0 l0 A1 n1 c1 l1 W w0 m0 w1 m1).mono fun e W1 ⟨he, bel⟩ => ?_
  subst he
  exact ⟨_, rfl, _, _, _, [], _, [], hW', trodAll_mk1 (shut_bool Try.underlying4 _), (trodAll_cons_mk (Below.trod laidOut (by kernel_rfl) (of_decide_eq_true (by kernel_rfl)) k0 bel lt0) (trodAll_cons_mk (Below.trod laidOut (by kernel_rfl) (of_decide_eq_true (by kernel_rfl)) k1 bel lt1) trodAll_mk0)), rfl, bel.frame _, fun h => by cases h⟩

/-- The statement. -/
theorem proved : Rows.FnExactLinesToRepeatSaid :=
  OpenClaim.holds_of_wide 11 Try.f11 rfl rfl rfl rfl rfl rfl rfl ⟨rfl, rfl, rfl, rfl, rfl⟩ rfl rfl rfl rfl rfl (by kernel_rfl) Try.func11 (by kernel_rfl)
    (of_decide_eq_true (by kernel_rfl)) (by unfold Func.isWrapper; first | (rw [if_pos (by decide +kernel)]; kernel_rfl) | (rw [if_neg (by decide +kernel)]; exact ⟨rfl, rfl⟩))
    (fun os started H enc _ => lifted os started H enc)
#print axioms proved
end Go.Proofs.Ytllfmjnniagjfaa.fnExactLinesToRepeat
