/-
  Proved here: for every code the law laws.FnFleets returns true (fuel that is used is gone, no vessel is shallower than the shallowest, the chosen vessel floats), and the argument reads afterwards as before.
  Conditions: none beyond the row's own.
-/
import Derived.Test.YtfffahkommbheaaRf
namespace Go.Proofs.Ytfffahkommbheaa.fnFleets
open Go.Joins Go.ChangeShapes Go.WideShapes Go.ChangeAt Go.RowKit Go.Deep
set_option linter.unusedVariables false

theorem floatT (A : Option Addr) (n c : Nat) (L : List CC) (d u : Int) (hk : flK L d u = true) (w : World) (hs : Crafts w w.heap.size A n L) (hm : n ≤ maxLen) (hcap : n ≤ c) :
    Calls Try.prog 23 #[.slice A n c, .int .i64 d, .int .i64 u] w (IntsPost (flR L d u) (flF L d u) true w) := by
  have h := float_impl A n c L d u w hs hm hcap
  unfold FlPost at h
  rwa [hk] at h
/-! ### The walk: the Go text returns true, and nothing that was there has turned. -/
set_option maxRecDepth 20000 in
set_option maxHeartbeats 12800000 in
theorem walk (A : Option Addr) (n c : Nat) (w : World) (hm : n ≤ maxLen) (hr : CodeRow w.heap.size A n w) :
    Calls Try.prog 3 #[.slice A n c] w fun e w' => e = .returned (.bool true) ∧ Below w.heap.size w w' := by
  rcases hb0 : decide ((65536 : Int) < n) with _ | _
  rotate_left
  · have HV := Lib.hid hb0
    clear hb0
    go_enter Try.func3, Try.ntmps3
    go_wp2_with fail
    refine (rBig_any _ _ _ _ HV.out _).mono ?_
    rintro e w' ⟨rfl, rfl⟩
    go_wp2_with fail
    go_ret
    exact ⟨rfl, Below.refl _ _⟩
  have HV := Lib.hid hb0
  have HRW := Lib.hid hr
  clear hb0 hr
  have HB0 := Lib.hid (Below.refl w.heap.size w)
  go_enter Try.func3, Try.ntmps3
  go_wp2_with fail
  refine (rBig_any _ _ _ _ HV.out _).mono ?_
  rintro e w' ⟨rfl, rfl⟩
  go_wp2_with fail
  refine (draw_use _ n c _ (HRW.out.below HB0.out HB0.out.size)).mono ?_
  rintro e w1 ⟨L1, g1, p1, x, y, rfl, hl1, hN1, hgg, hR, hb⟩
  have HB1 := Lib.hid (bthen HB0.out hb HB0.out.size)
  have HS1_1 := Lib.hid (hR.crafts hN1.max)
  have hc1 := hR.cap
  have HN1 := Lib.hid hN1
  have hm1 : L1.length ≤ maxLen := by unfold maxLen; omega
  clear hR hb hgg hN1
  go_wp2_with fail
  refine (use_impl _ _ _ L1 x y _ HS1_1.out hm1 hc1).mono ?_
  rintro e w2 ⟨A2, c2, rfl, hO, hb⟩
  have HB2 := Lib.hid (bthen HB1.out hb HB1.out.size)
  have HS1_2 := Lib.hid (crafts_at HS1_1.out hb)
  have HO2 := Lib.hid hO
  clear hb hO
  go_wp2_with fail
  refine (use_spec _ _ _ L1 x y _ HS1_2.out hm1).mono ?_
  rintro e w3 ⟨A3, c3, rfl, hO, hb⟩
  have HB3 := Lib.hid (bthen HB2.out hb HB2.out.size)
  have HS1_3 := Lib.hid (crafts_at HS1_2.out hb)
  have HO3 := Lib.hid hO
  have HO23 := Lib.hid (HO2.out.on hb (Nat.le_refl _))
  have HZ3 := Lib.hid hb.size
  clear hb hO
  have hlr : (ufR L1 x y).length ≤ maxLen := by have := ufR_lenF L1 x y; omega
  have HNR := Lib.hid (ufR_names (id := x) (m := y) HN1.out)
  go_wp2_with fail
  refine (rFleet_same _ _ _ _ _ (ufR L1 x y) _ (HO23.out.crafts HNR.out) (HO3.out.crafts HNR.out) hlr).mono ?_
  rintro e w4 ⟨rfl, hb⟩
  have HB4 := Lib.hid (bthen HB3.out hb HB3.out.size)
  have HS1_4 := Lib.hid (crafts_at HS1_3.out hb)
  have HO4 := Lib.hid (HO23.out.on hb HZ3.out)
  have HRC := Lib.hid (HO4.out.crafts HNR.out)
  clear hb
  clear HO2 HO3 HO23 HZ3 HO4
  go_wp2_with fail
  go_loopw [10] (fun i wr => ∃ k : Nat, k ≤ (ufR L1 x y).length ∧ i = .int .i64 k ∧ Hid (Below w4.heap.size w4 wr)) (fun i _ => (ufR L1 x y).length - (intOf i).toNat)
  case atStart => exact ⟨0, Nat.zero_le _, rfl, Lib.hid (Below.refl _ _)⟩
  case round =>
    obtain ⟨k, hk, rfl, hB⟩ := hrel
    obtain ⟨W0, rfl⟩ : ∃ W : World, W = wr := ⟨_, rfl⟩
    by_cases hlt : k < (ufR L1 x y).length
    · obtain ⟨b2, o2, u, rfl, hb2, hu, hnu, q0, q1, q2, q3, q4, q5, q6⟩ := (crafts_at HRC.out hB.out).2 k hlt
      obtain ⟨v, hv, hvB, hy, hcase⟩ := uf_place hu
      have hkl : k < L1.length := by have := ufR_lenF L1 x y; omega
      obtain ⟨b1, o1, v1, hA1, hb1, hv1, hn1, p0, p1, p2, p3, p4, p5, p6⟩ := (crafts_at HS1_4.out hB.out).2 k hkl
      obtain rfl : v = v1 := Option.some.inj (hv.symm.trans hv1)
      obtain ⟨rfl, rfl⟩ : g1 = b1 ∧ 0 = o1 := by injection hA1 with h; injection h with h h'; exact ⟨h, h'⟩
      obtain ⟨_, _, _, _, _, ⟨f1, f2⟩, _⟩ := craftB_parts hvB
      obtain ⟨y1, y2⟩ := hy
      simp only [Nat.zero_add] at p0 p6
      clear hu hv hv1 hvB hA1 q0 q1 q2 q3 q4 q5 p1 p2 p3 p4 p5 hnu hn1
      rcases hcase with ⟨he, hne⟩ | he
      · have hd : (v.id == x) = false := beq_eq_false_iff_ne.2 hne
        rw [he] at q6
        clear he hne
        go_wp2_with fail
        have lc0 := lcell (p0)
        have lc1 := lcell (p6)
        have lc2 := lcell (q6)
        refine region_later (W := W0) (by kernel_rfl) (by kernel_rfl) (Below.refl _ _) ?_
        repeat (go_big_quiet_step (fail))
        refine wpQuiet_nil ?_
        intro W1 hW1
        have HL : Hid (Below W0.heap.size W0 W1) := by obtain ⟨x, rfl⟩ := hW1; exact Lib.hid x.below
        clear hW1 lc0 lc1 lc2
        have HT := Lib.hid (bthen hB.out HL.out hB.out.size)
        have p0' := cell_next HL.out p0
        clear p0 p6 q6
        go_wp2_with fail
        go_roundw
        case rel => exact ⟨k + 1, by omega, by go_num, HT⟩
        case measure => simp [intOf]; omega
      · rw [he] at q6
        clear he
        have he2 : v.fu - (v.fu - y) = y := by omega
        by_cases hy0 : y = 0
        · subst hy0
          rcases hd : (v.id == x) with _ | _
          · go_wp2_with fail
            have lc0 := lcell (p0)
            have lc1 := lcell (p6)
            have lc2 := lcell (q6)
            refine region_later (W := W0) (by kernel_rfl) (by kernel_rfl) (Below.refl _ _) ?_
            repeat (go_big_quiet_step (fail))
            refine wpQuiet_nil ?_
            intro W1 hW1
            have HL : Hid (Below W0.heap.size W0 W1) := by obtain ⟨x, rfl⟩ := hW1; exact Lib.hid x.below
            clear hW1 lc0 lc1 lc2
            have HT := Lib.hid (bthen hB.out HL.out hB.out.size)
            have p0' := cell_next HL.out p0
            clear p0 p6 q6
            go_wp2_with fail
            go_roundw
            case rel => exact ⟨k + 1, by omega, by go_num, HT⟩
            case measure => simp [intOf]; omega
          · go_wp2_with fail
            have lc0 := lcell (p0)
            have lc1 := lcell (p6)
            have lc2 := lcell (q6)
            refine region_later (W := W0) (by kernel_rfl) (by kernel_rfl) (Below.refl _ _) ?_
            repeat (go_big_quiet_step (fail))
            refine wpQuiet_nil ?_
            intro W1 hW1
            have HL : Hid (Below W0.heap.size W0 W1) := by obtain ⟨x, rfl⟩ := hW1; exact Lib.hid x.below
            clear hW1 lc0 lc1 lc2
            have HT := Lib.hid (bthen hB.out HL.out hB.out.size)
            have p0' := cell_next HL.out p0
            clear p0 p6 q6
            go_wp2_with fail
            go_roundw
            case rel => exact ⟨k + 1, by omega, by go_num, HT⟩
            case measure => simp [intOf]; omega
        · have hy0' : (y == 0) = false := beq_eq_false_iff_ne.2 hy0
          rcases hd : (v.id == x) with _ | _
          · go_wp2_with fail
            have lc0 := lcell (p0)
            have lc1 := lcell (p6)
            have lc2 := lcell (q6)
            refine region_later (W := W0) (by kernel_rfl) (by kernel_rfl) (Below.refl _ _) ?_
            repeat (go_big_quiet_step (fail))
            refine wpQuiet_nil ?_
            intro W1 hW1
            have HL : Hid (Below W0.heap.size W0 W1) := by obtain ⟨x, rfl⟩ := hW1; exact Lib.hid x.below
            clear hW1 lc0 lc1 lc2
            have HT := Lib.hid (bthen hB.out HL.out hB.out.size)
            have p0' := cell_next HL.out p0
            clear p0 p6 q6
            go_wp2_with fail
            go_roundw
            case rel => exact ⟨k + 1, by omega, by go_num, HT⟩
            case measure => simp [intOf]; omega
          · go_wp2_with fail
            have lc0 := lcell (p0)
            have lc1 := lcell (p6)
            have lc2 := lcell (q6)
            refine region_later (W := W0) (by kernel_rfl) (by kernel_rfl) (Below.refl _ _) ?_
            repeat (go_big_quiet_step (fail))
            refine wpQuiet_nil ?_
            intro W1 hW1
            have HL : Hid (Below W0.heap.size W0 W1) := by obtain ⟨x, rfl⟩ := hW1; exact Lib.hid x.below
            clear hW1 lc0 lc1 lc2
            have HT := Lib.hid (bthen hB.out HL.out hB.out.size)
            have p0' := cell_next HL.out p0
            clear p0 p6 q6
            go_wp2_with fail
            go_roundw
            case rel => exact ⟨k + 1, by omega, by go_num, HT⟩
            case measure => simp [intOf]; omega
    · obtain rfl : k = (ufR L1 x y).length := by omega
      have HBl := Lib.hid (bthen HB4.out hB.out HB4.out.size)
      clear HRC hB
      go_wp2_with fail
      refine (draw_for _ n c _ (HRW.out.below HBl.out HBl.out.size)).mono ?_
      rintro e w5 ⟨L2, g2, p2, m2, d2, rfl, hl2, hN2, hgg, hR, hb⟩
      have HB5 := Lib.hid (bthen HBl.out hb HBl.out.size)
      have HS2_5 := Lib.hid (hR.crafts hN2.max)
      have hc2 := hR.cap
      have HN2 := Lib.hid hN2
      have hm2 : L2.length ≤ maxLen := by unfold maxLen; omega
      clear hR hb hgg hN2
      obtain ⟨V, hV⟩ : ∃ V, cfV L2 m2 d2 = V := ⟨_, rfl⟩
      have HVV := Lib.hid hV
      clear hV
      rcases hb2 : decide (0 < V) with _ | _
      · have HD2 := Lib.hid hb2
        clear hb2
        go_wp2_with fail
        refine (cfI_v _ _ _ L2 m2 d2 V _ HVV.out HD2.out _ HS2_5.out hm2 hc2).mono ?_
        rintro e w6 ⟨rfl, hb⟩
        have HB6 := Lib.hid (bthen HB5.out hb HB5.out.size)
        have HS2_6 := Lib.hid (crafts_at HS2_5.out hb)
        clear hb
        go_wp2_with fail
        refine (cfS_v _ _ _ L2 m2 d2 V _ HVV.out HD2.out _ HS2_6.out hm2).mono ?_
        rintro e w7 ⟨rfl, hb⟩
        have HB7 := Lib.hid (bthen HB6.out hb HB6.out.size)
        have HS2_7 := Lib.hid (crafts_at HS2_6.out hb)
        clear hb
        go_wp2_with fail
        refine (draw_floats _ n c _ (HRW.out.below HB7.out HB7.out.size)).mono ?_
        rintro e w8 ⟨L3, g3, p3, d3, u3, rfl, hl3, hN3, hgg, hR, hb⟩
        have HB8 := Lib.hid (bthen HB7.out hb HB7.out.size)
        have HS3_8 := Lib.hid (hR.crafts hN3.max)
        have hc3 := hR.cap
        have HN3 := Lib.hid hN3
        have hm3 : L3.length ≤ maxLen := by unfold maxLen; omega
        clear hR hb hgg hN3
        go_wp2_with fail
        refine (float_impl _ _ _ L3 d3 u3 _ HS3_8.out hm3 hc3).mono ?_
        rintro e w9 ⟨A5, c5, rfl, hI, hb⟩
        have HB9 := Lib.hid (bthen HB8.out hb HB8.out.size)
        have HS3_9 := Lib.hid (crafts_at HS3_8.out hb)
        have HI5 := Lib.hid hI
        clear hb hI
        go_wp2_with fail
        refine (float_spec _ _ _ L3 d3 u3 _ HS3_9.out hm3).mono ?_
        rintro e w10 ⟨A6, c6, rfl, hI, hb⟩
        have HB10 := Lib.hid (bthen HB9.out hb HB9.out.size)
        have HS3_10 := Lib.hid (crafts_at HS3_9.out hb)
        have HI6 := Lib.hid hI
        have HI56 := Lib.hid (HI5.out.on hb (Nat.le_refl _))
        clear hb hI
        have hl3m : (flR L3 d3 u3).length ≤ 1048576 := by have := flR_len L3 d3 u3; omega
        go_wp2_with fail
        refine (rI_same _ _ _ _ _ _ _ _ _ _ _ HI56.out HI6.out hl3m).mono ?_
        rintro e w11 ⟨rfl, hb⟩
        have HB11 := Lib.hid (bthen HB10.out hb HB10.out.size)
        clear hb
        clear HI5 HI6 HI56
        go_wp2_with fail
        refine (draw_shallow _ n c _ (HRW.out.below HB11.out HB11.out.size)).mono ?_
        rintro e w12 ⟨L4, g4, p4, rfl, hl4, hN4, hgg, hR, hb⟩
        have HB12 := Lib.hid (bthen HB11.out hb HB11.out.size)
        have HS4_12 := Lib.hid (hR.crafts hN4.max)
        have hc4 := hR.cap
        have HN4 := Lib.hid hN4
        have hm4 : L4.length ≤ maxLen := by unfold maxLen; omega
        clear hR hb hgg hN4
        obtain ⟨V4, hV4⟩ : ∃ V, shV L4 = V := ⟨_, rfl⟩
        obtain ⟨K4, hK4⟩ : ∃ V, shK L4 = V := ⟨_, rfl⟩
        obtain ⟨b4, hb4⟩ : ∃ V, areC L4 = V := ⟨_, rfl⟩
        have HV4 := Lib.hid hV4
        have HK4 := Lib.hid hK4
        have HA4 := Lib.hid hb4
        clear hV4 hK4 hb4
        go_wp2_with fail
        refine (shI_v _ _ _ L4 V4 K4 HV4.out HK4.out _ HS4_12.out hm4 hc4).mono ?_
        rintro e w13 ⟨rfl, hb⟩
        have HB13 := Lib.hid (bthen HB12.out hb HB12.out.size)
        have HS4_13 := Lib.hid (crafts_at HS4_12.out hb)
        clear hb
        go_wp2_with fail
        refine (shS_v _ _ _ L4 V4 K4 HV4.out HK4.out _ HS4_13.out hm4).mono ?_
        rintro e w14 ⟨rfl, hb⟩
        have HB14 := Lib.hid (bthen HB13.out hb HB13.out.size)
        have HS4_14 := Lib.hid (crafts_at HS4_13.out hb)
        clear hb
        go_wp2_with fail
        refine (areC_v _ _ _ L4 b4 HA4.out _ HS4_14.out hm4 hc4).mono ?_
        rintro e w15 ⟨rfl, hb⟩
        have HB15 := Lib.hid (bthen HB14.out hb HB14.out.size)
        have HS4_15 := Lib.hid (crafts_at HS4_14.out hb)
        clear hb
        go_wp2_with fail
        refine (areS_v _ _ _ L4 b4 HA4.out _ HS4_15.out hm4).mono ?_
        rintro e w16 ⟨rfl, hb⟩
        have HB16 := Lib.hid (bthen HB15.out hb HB15.out.size)
        clear hb
        go_wp2_with fail
        go_ret
        exact ⟨ret_bool (by first | rfl | simp), HB16.out⟩
      · have HD2 := Lib.hid hb2
        clear hb2
        go_wp2_with fail
        refine (cfI_v _ _ _ L2 m2 d2 V _ HVV.out HD2.out _ HS2_5.out hm2 hc2).mono ?_
        rintro e w6 ⟨rfl, hb⟩
        have HB6 := Lib.hid (bthen HB5.out hb HB5.out.size)
        have HS2_6 := Lib.hid (crafts_at HS2_5.out hb)
        clear hb
        go_wp2_with fail
        refine (cfS_v _ _ _ L2 m2 d2 V _ HVV.out HD2.out _ HS2_6.out hm2).mono ?_
        rintro e w7 ⟨rfl, hb⟩
        have HB7 := Lib.hid (bthen HB6.out hb HB6.out.size)
        have HS2_7 := Lib.hid (crafts_at HS2_6.out hb)
        clear hb
        have hch := chosen (L := L2) (m := m2) (d := d2) (by rw [HVV.out]; exact of_decide_eq_true HD2.out)
        obtain ⟨V2, hV2⟩ : ∃ V, shV L2 = V := ⟨_, rfl⟩
        rw [HVV.out, hV2] at hch
        have HS2V := Lib.hid hV2
        have HF2 := Lib.hid hch.1
        have HK2 := Lib.hid hch.2.1
        have HX1 := Lib.hid hch.2.2.1
        have HX2 := Lib.hid hch.2.2.2
        clear hch hV2
        have hl2m : (flR L2 d2 0).length ≤ 1048576 := by have := flR_len L2 d2 0; omega
        go_wp2_with fail
        refine (floatT _ _ _ L2 d2 0 HF2.out _ HS2_7.out hm2 hc2).mono ?_
        rintro e w8 ⟨A7, c7, rfl, hI, hb⟩
        have HB8 := Lib.hid (bthen HB7.out hb HB7.out.size)
        have HS2_8 := Lib.hid (crafts_at HS2_7.out hb)
        have HI7 := Lib.hid hI
        clear hb hI
        go_wp2_with fail
        refine (shI_v _ _ _ L2 V2 _ HS2V.out HK2.out _ HS2_8.out hm2 hc2).mono ?_
        rintro e w9 ⟨rfl, hb⟩
        have HB9 := Lib.hid (bthen HB8.out hb HB8.out.size)
        have HI8 := Lib.hid (HI7.out.on hb (Nat.le_refl _))
        clear hb
        go_wp2_with fail
        refine (rHas_yes _ _ _ _ _ _ V _ HI8.out hl2m HX1.out).mono ?_
        rintro e w' ⟨rfl, rfl⟩
        go_wp2_with fail
        refine (rHas_yes _ _ _ _ _ _ V2 _ HI8.out hl2m HX2.out).mono ?_
        rintro e w' ⟨rfl, rfl⟩
        clear HI7 HI8 HX1 HX2
        go_wp2_with fail
        refine (draw_floats _ n c _ (HRW.out.below HB9.out HB9.out.size)).mono ?_
        rintro e w10 ⟨L3, g3, p3, d3, u3, rfl, hl3, hN3, hgg, hR, hb⟩
        have HB10 := Lib.hid (bthen HB9.out hb HB9.out.size)
        have HS3_10 := Lib.hid (hR.crafts hN3.max)
        have hc3 := hR.cap
        have HN3 := Lib.hid hN3
        have hm3 : L3.length ≤ maxLen := by unfold maxLen; omega
        clear hR hb hgg hN3
        go_wp2_with fail
        refine (float_impl _ _ _ L3 d3 u3 _ HS3_10.out hm3 hc3).mono ?_
        rintro e w11 ⟨A5, c5, rfl, hI, hb⟩
        have HB11 := Lib.hid (bthen HB10.out hb HB10.out.size)
        have HS3_11 := Lib.hid (crafts_at HS3_10.out hb)
        have HI5 := Lib.hid hI
        clear hb hI
        go_wp2_with fail
        refine (float_spec _ _ _ L3 d3 u3 _ HS3_11.out hm3).mono ?_
        rintro e w12 ⟨A6, c6, rfl, hI, hb⟩
        have HB12 := Lib.hid (bthen HB11.out hb HB11.out.size)
        have HS3_12 := Lib.hid (crafts_at HS3_11.out hb)
        have HI6 := Lib.hid hI
        have HI56 := Lib.hid (HI5.out.on hb (Nat.le_refl _))
        clear hb hI
        have hl3m : (flR L3 d3 u3).length ≤ 1048576 := by have := flR_len L3 d3 u3; omega
        go_wp2_with fail
        refine (rI_same _ _ _ _ _ _ _ _ _ _ _ HI56.out HI6.out hl3m).mono ?_
        rintro e w13 ⟨rfl, hb⟩
        have HB13 := Lib.hid (bthen HB12.out hb HB12.out.size)
        clear hb
        clear HI5 HI6 HI56
        go_wp2_with fail
        refine (draw_shallow _ n c _ (HRW.out.below HB13.out HB13.out.size)).mono ?_
        rintro e w14 ⟨L4, g4, p4, rfl, hl4, hN4, hgg, hR, hb⟩
        have HB14 := Lib.hid (bthen HB13.out hb HB13.out.size)
        have HS4_14 := Lib.hid (hR.crafts hN4.max)
        have hc4 := hR.cap
        have HN4 := Lib.hid hN4
        have hm4 : L4.length ≤ maxLen := by unfold maxLen; omega
        clear hR hb hgg hN4
        obtain ⟨V4, hV4⟩ : ∃ V, shV L4 = V := ⟨_, rfl⟩
        obtain ⟨K4, hK4⟩ : ∃ V, shK L4 = V := ⟨_, rfl⟩
        obtain ⟨b4, hb4⟩ : ∃ V, areC L4 = V := ⟨_, rfl⟩
        have HV4 := Lib.hid hV4
        have HK4 := Lib.hid hK4
        have HA4 := Lib.hid hb4
        clear hV4 hK4 hb4
        go_wp2_with fail
        refine (shI_v _ _ _ L4 V4 K4 HV4.out HK4.out _ HS4_14.out hm4 hc4).mono ?_
        rintro e w15 ⟨rfl, hb⟩
        have HB15 := Lib.hid (bthen HB14.out hb HB14.out.size)
        have HS4_15 := Lib.hid (crafts_at HS4_14.out hb)
        clear hb
        go_wp2_with fail
        refine (shS_v _ _ _ L4 V4 K4 HV4.out HK4.out _ HS4_15.out hm4).mono ?_
        rintro e w16 ⟨rfl, hb⟩
        have HB16 := Lib.hid (bthen HB15.out hb HB15.out.size)
        have HS4_16 := Lib.hid (crafts_at HS4_15.out hb)
        clear hb
        go_wp2_with fail
        refine (areC_v _ _ _ L4 b4 HA4.out _ HS4_16.out hm4 hc4).mono ?_
        rintro e w17 ⟨rfl, hb⟩
        have HB17 := Lib.hid (bthen HB16.out hb HB16.out.size)
        have HS4_17 := Lib.hid (crafts_at HS4_16.out hb)
        clear hb
        go_wp2_with fail
        refine (areS_v _ _ _ L4 b4 HA4.out _ HS4_17.out hm4).mono ?_
        rintro e w18 ⟨rfl, hb⟩
        have HB18 := Lib.hid (bthen HB17.out hb HB17.out.size)
        clear hb
        go_wp2_with fail
        go_ret
        exact ⟨ret_bool (by first | rfl | simp), HB18.out⟩

/-! ### The row's step. -/
set_option maxRecDepth 100000 in
theorem lifted (os : Os) (started : os.Started) (H : Type) (enc : TypeId × Value → H) :
    ReturnsInHanded {} Try.checked os 3 .any (Rows.fnFleetsSpec.pre6 enc Try.prog Try.f3 Rows.fnFleetsRow.domain false) (Rows.fnFleetsSpec.post enc Try.prog Try.f3 false true false false) := by
  refine returnsInHanded_of_change (C := Try.checked) own started (by kernel_rfl) Try.func3
    (ChangeSpec.witness6 (enc := enc) (C := Try.checked) false ⟨#[], #[.slice none 0 0], []⟩ 8 (by kernel_rfl) (by kernel_rfl) (by kernel_rfl) (by kernel_rfl)) ?_
  intro W base args ds gs before hval0 hW hcnd _
  have hval : ∀ (j : Nat) t v, Try.f3.params[j]? = some t → args[j]? = some v → Value.okWide Try.prog W .any base t v := hval0
  have hW' := hW
  obtain ⟨p, q, hA0, hV, rfl, hfz, hnd⟩ := hW
  have hA : DataW.TrodAll enc Try.prog W 0 (fun _ => true) true Try.f3.params.toList args.toList ds p := hA0
  rw [Try.params3] at hA hval
  obtain ⟨v0, vs0, d0, ds0, p0, q0, hargs, rfl, rfl, h0, r0⟩ := trodAll_cons hA
  obtain ⟨rfl, rfl, rfl⟩ := trodAll_nil r0
  obtain rfl : args = #[v0] := by cases args; simp_all
  obtain ⟨rfl, rfl⟩ := trodVars_none hV
  have k0 := h0
  have lt0 : ∀ x ∈ p0, x.block < W.heap.size := by obtain ⟨m, hm⟩ := k0; exact DataW.trod_lt m _ _ _ hm
  obtain ⟨A0, n0, c0, rfl⟩ := okWide_slice Try.underlying22 (hval 0 22 v0 rfl rfl)
  obtain ⟨m0, w0⟩ := open_code h0
  clear hA0 hval0
  refine (walk A0 n0 c0 W m0 w0).mono fun e W1 ⟨he, bel⟩ => ?_
  subst he
  exact ⟨_, rfl, _, _, _, [], _, [], hW', trodAll_mk1 (shut_bool Try.underlying4 _), (trodAll_cons_mk (Below.trod laidOut (by kernel_rfl) (of_decide_eq_true (by kernel_rfl)) k0 bel lt0) trodAll_mk0), rfl, bel.frame _, fun h => by cases h⟩

/-- The statement. -/
theorem proved : Rows.FnFleetsSaid :=
  OpenClaim.holds_of_wide 3 Try.f3 rfl rfl rfl rfl rfl rfl rfl ⟨rfl, rfl, rfl, rfl, rfl⟩ rfl rfl rfl rfl rfl (by kernel_rfl) Try.func3 (by kernel_rfl)
    (of_decide_eq_true (by kernel_rfl)) (by unfold Func.isWrapper; first | (rw [if_pos (by decide +kernel)]; kernel_rfl) | (rw [if_neg (by decide +kernel)]; exact ⟨rfl, rfl⟩))
    (fun os started H enc _ => lifted os started H enc)
#print axioms proved
end Go.Proofs.Ytfffahkommbheaa.fnFleets
