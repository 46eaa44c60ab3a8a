/-
  Proved here: for every code the law laws.FnHighWaters returns true (no minute has a level above the highest one, and the first minute with a level is the first), and the argument reads afterwards as before.
  Conditions: none beyond the row's own.
-/
import Derived.Test.YtdmnkmdlochogaaOt
import Derived.Test.YtdmnkmdlochogaaFh
namespace Go.Proofs.Ytdmnkmdlochogaa.fnHighWaters
open Go.Joins Go.ChangeShapes Go.WideShapes Go.ChangeAt Go.RowKit Go.Deep
set_option linter.unusedVariables false

theorem MwPost_eq {l : List (Int × Int)} {v a b : Int} (h1 : mwK l v a b = true) (h2 : mwV l v a b = 1) {w : World} : MwPost l v a b w = fun e w' => e = .returned (.tuple #[.int .i64 1, .bool true]) ∧ Below w.heap.size w w' := by
  funext e w'
  unfold MwPost
  rw [h1, h2]
/-! ### The walk: the Go text returns true, and nothing that was there has turned. -/
set_option maxRecDepth 20000 in
set_option maxHeartbeats 12800000 in
theorem walk (A : Option Addr) (n c : Nat) (w : World) (hm : n ≤ maxLen) (hr : CodeRow w.heap.size A n w) :
    Calls Try.prog 5 #[.slice A n c] w fun e w' => e = .returned (.bool true) ∧ Below w.heap.size w w' := by
  rcases hb0 : decide ((65536 : Int) < n) with _ | _
  rotate_left
  · have HV := Lib.hid hb0
    clear hb0
    go_enter Try.func5, Try.ntmps5
    go_wp2_with fail
    refine (vBig_any _ _ _ _ HV.out _).mono ?_
    rintro e w' ⟨rfl, rfl⟩
    go_wp2_with fail
    go_ret
    exact ⟨rfl, Below.refl _ _⟩
  have HV := Lib.hid hb0
  clear hb0
  have HB0 := Lib.hid (Below.refl w.heap.size w)
  go_enter Try.func5, Try.ntmps5
  go_wp2_with fail
  refine (vBig_any _ _ _ _ HV.out _).mono ?_
  rintro e w' ⟨rfl, rfl⟩
  go_wp2_with fail
  refine (draw_high _ n c _ (hr.below HB0.out HB0.out.size)).mono ?_
  rintro e w1 ⟨Rq, mq, pq, a, b, rfl, hi_a, hi_b, hD⟩
  obtain ⟨hmq, ⟨lq, hsq⟩, hb⟩ := hD
  obtain ⟨a_lo, a_hi⟩ := hi_a
  obtain ⟨b_lo, b_hi⟩ := hi_b
  have HB2 := Lib.hid (bthen HB0.out hb HB0.out.size)
  have HSq_1 := Lib.hid hsq
  clear hsq hb
  have hlq : mq ≤ maxLen := by unfold maxLen; omega
  go_wp2_with fail
  refine (highest_impl _ _ _ lq a b _ HSq_1.out hlq).mono ?_
  rintro e w3 ⟨rfl, hb⟩
  have HB4 := Lib.hid (bthen HB2.out hb HB2.out.size)
  have HSq_5 := Lib.hid (spots_at HSq_1.out hb)
  clear hb
  go_wp2_with fail
  refine (highest_spec _ _ _ lq a b _ HSq_5.out hlq).mono ?_
  rintro e w6 ⟨rfl, hb⟩
  have HB7 := Lib.hid (bthen HB4.out hb HB4.out.size)
  have HSq_8 := Lib.hid (spots_at HSq_5.out hb)
  clear hb
  rcases hk1 : hlK lq a b with _ | _
  · skip
    clear hk1
    go_wp2_with fail
    refine (draw_first _ n c _ (hr.below HB7.out HB7.out.size)).mono ?_
    rintro e w9 ⟨Rx, mx, px, v2, a2, rfl, hi_v2, hi_a2, hD⟩
    obtain ⟨hmx, ⟨lx, hsx⟩, hb⟩ := hD
    obtain ⟨v2_lo, v2_hi⟩ := hi_v2
    obtain ⟨a2_lo, a2_hi⟩ := hi_a2
    have HB10 := Lib.hid (bthen HB7.out hb HB7.out.size)
    have HSx_9 := Lib.hid hsx
    clear hsx hb
    have hlx : mx ≤ maxLen := by unfold maxLen; omega
    go_wp2_with fail
    refine (first_impl _ _ _ lx v2 a2 _ HSx_9.out hlx).mono ?_
    rintro e w11 ⟨rfl, hb⟩
    have HB12 := Lib.hid (bthen HB10.out hb HB10.out.size)
    have HSx_13 := Lib.hid (spots_at HSx_9.out hb)
    clear hb
    go_wp2_with fail
    refine (first_spec _ _ _ lx v2 a2 _ HSx_13.out hlx).mono ?_
    rintro e w14 ⟨rfl, hb⟩
    have HB15 := Lib.hid (bthen HB12.out hb HB12.out.size)
    have HSx_16 := Lib.hid (spots_at HSx_13.out hb)
    clear hb
    rcases hk2 : fmK lx v2 a2 with _ | _
    · skip
      clear hk2
      go_wp2_with fail
      refine (draw_minutes _ n c _ (hr.below HB15.out HB15.out.size)).mono ?_
      rintro e w17 ⟨Ry, my, py, v3, a3, b3, rfl, hi_v3, hi_a3, hi_b3, hD⟩
      obtain ⟨hmy, ⟨ly, hsy⟩, hb⟩ := hD
      obtain ⟨v3_lo, v3_hi⟩ := hi_v3
      obtain ⟨a3_lo, a3_hi⟩ := hi_a3
      obtain ⟨b3_lo, b3_hi⟩ := hi_b3
      have HB18 := Lib.hid (bthen HB15.out hb HB15.out.size)
      have HSy_17 := Lib.hid hsy
      clear hsy hb
      have hly : my ≤ maxLen := by unfold maxLen; omega
      go_wp2_with fail
      refine (minutes_impl _ _ _ ly v3 a3 b3 _ HSy_17.out hly).mono ?_
      rintro e w19 ⟨rfl, hb⟩
      have HB20 := Lib.hid (bthen HB18.out hb HB18.out.size)
      have HSy_21 := Lib.hid (spots_at HSy_17.out hb)
      clear hb
      go_wp2_with fail
      refine (minutes_spec _ _ _ ly v3 a3 b3 _ HSy_21.out hly).mono ?_
      rintro e w22 ⟨rfl, hb⟩
      have HB23 := Lib.hid (bthen HB20.out hb HB20.out.size)
      have HSy_24 := Lib.hid (spots_at HSy_21.out hb)
      clear hb
      rcases hk3 : mwK ly v3 a3 b3 with _ | _
      · skip
        clear hk3
        go_wp2_with fail
        refine (draw_gaps _ n c _ (hr.below HB23.out HB23.out.size)).mono ?_
        rintro e w25 ⟨Rz, mz, pz, rfl, hD⟩
        obtain ⟨hmz, ⟨lz, hsz⟩, hb⟩ := hD
        have HB26 := Lib.hid (bthen HB23.out hb HB23.out.size)
        have HSz_25 := Lib.hid hsz
        clear hsz hb
        have hlz : mz ≤ maxLen := by unfold maxLen; omega
        go_wp2_with fail
        refine (tgaps_impl _ _ _ lz _ HSz_25.out hlz).mono ?_
        rintro e w28 ⟨Aimpl, cimpl, rfl, hO, hb⟩
        have HB29 := Lib.hid (bthen HB26.out hb HB26.out.size)
        have HSz_30 := Lib.hid (spots_at HSz_25.out hb)
        have HOi := Lib.hid hO
        clear hO hb
        go_wp2_with fail
        refine (tgaps_spec _ _ _ lz _ HSz_30.out hlz).mono ?_
        rintro e w31 ⟨Aspec, cspec, rfl, hO, hb⟩
        have HOi2 := Lib.hid (HOi.out.on hb (Nat.le_refl _))
        have HB32 := Lib.hid (bthen HB29.out hb HB29.out.size)
        have HSz_33 := Lib.hid (spots_at HSz_30.out hb)
        have HOs := Lib.hid hO
        clear hO hb
        go_wp2_with fail
        refine (vI_same _ _ _ _ _ _ _ _ _ _ _ HOi2.out HOs.out (tgR_len lz)).mono ?_
        rintro e w' ⟨rfl, k9, rfl⟩
        have HZ := Lib.hid (bdrewN HB32.out k9)
        go_wp2_with fail
        go_ret
        exact ⟨rfl, HZ.out⟩
      · skip
        have HF3 := mw_facts hk3
        obtain ⟨f31, f32⟩ := HF3
        obtain ⟨n3, hn3⟩ : ∃ z, z = mwV ly v3 a3 b3 := ⟨_, rfl⟩
        rw [← hn3] at f31 f32
        try rw [← hn3]
        clear hn3
        clear hk3
        go_wp2_with fail
        refine (draw_gaps _ n c _ (hr.below HB23.out HB23.out.size)).mono ?_
        rintro e w35 ⟨Rz, mz, pz, rfl, hD⟩
        obtain ⟨hmz, ⟨lz, hsz⟩, hb⟩ := hD
        have HB36 := Lib.hid (bthen HB23.out hb HB23.out.size)
        have HSz_35 := Lib.hid hsz
        clear hsz hb
        have hlz : mz ≤ maxLen := by unfold maxLen; omega
        go_wp2_with fail
        refine (tgaps_impl _ _ _ lz _ HSz_35.out hlz).mono ?_
        rintro e w38 ⟨Aimpl, cimpl, rfl, hO, hb⟩
        have HB39 := Lib.hid (bthen HB36.out hb HB36.out.size)
        have HSz_40 := Lib.hid (spots_at HSz_35.out hb)
        have HOi := Lib.hid hO
        clear hO hb
        go_wp2_with fail
        refine (tgaps_spec _ _ _ lz _ HSz_40.out hlz).mono ?_
        rintro e w41 ⟨Aspec, cspec, rfl, hO, hb⟩
        have HOi2 := Lib.hid (HOi.out.on hb (Nat.le_refl _))
        have HB42 := Lib.hid (bthen HB39.out hb HB39.out.size)
        have HSz_43 := Lib.hid (spots_at HSz_40.out hb)
        have HOs := Lib.hid hO
        clear hO hb
        go_wp2_with fail
        refine (vI_same _ _ _ _ _ _ _ _ _ _ _ HOi2.out HOs.out (tgR_len lz)).mono ?_
        rintro e w' ⟨rfl, k9, rfl⟩
        have HZ := Lib.hid (bdrewN HB42.out k9)
        go_wp2_with fail
        go_ret
        exact ⟨rfl, HZ.out⟩
    · skip
      obtain ⟨g1, g2, g3⟩ := fm_facts hk2
      obtain ⟨f2, hf2⟩ : ∃ z, z = fmV lx v2 a2 := ⟨_, rfl⟩
      rw [← hf2] at g1 g2 g3
      try rw [← hf2]
      clear hf2 hk2
      go_wp2_with fail
      refine (minutes_impl _ _ _ lx v2 a2 f2 _ HSx_16.out hlx).mono ?_
      rw [MwPost_eq g1 g2]
      rintro e w45 ⟨rfl, hb⟩
      have HB46 := Lib.hid (bthen HB15.out hb HB15.out.size)
      clear hb g1 g2
      go_wp2_with fail
      refine (draw_minutes _ n c _ (hr.below HB46.out HB46.out.size)).mono ?_
      rintro e w47 ⟨Ry, my, py, v3, a3, b3, rfl, hi_v3, hi_a3, hi_b3, hD⟩
      obtain ⟨hmy, ⟨ly, hsy⟩, hb⟩ := hD
      obtain ⟨v3_lo, v3_hi⟩ := hi_v3
      obtain ⟨a3_lo, a3_hi⟩ := hi_a3
      obtain ⟨b3_lo, b3_hi⟩ := hi_b3
      have HB48 := Lib.hid (bthen HB46.out hb HB46.out.size)
      have HSy_47 := Lib.hid hsy
      clear hsy hb
      have hly : my ≤ maxLen := by unfold maxLen; omega
      go_wp2_with fail
      refine (minutes_impl _ _ _ ly v3 a3 b3 _ HSy_47.out hly).mono ?_
      rintro e w49 ⟨rfl, hb⟩
      have HB50 := Lib.hid (bthen HB48.out hb HB48.out.size)
      have HSy_51 := Lib.hid (spots_at HSy_47.out hb)
      clear hb
      go_wp2_with fail
      refine (minutes_spec _ _ _ ly v3 a3 b3 _ HSy_51.out hly).mono ?_
      rintro e w52 ⟨rfl, hb⟩
      have HB53 := Lib.hid (bthen HB50.out hb HB50.out.size)
      have HSy_54 := Lib.hid (spots_at HSy_51.out hb)
      clear hb
      rcases hk3 : mwK ly v3 a3 b3 with _ | _
      · skip
        clear hk3
        go_wp2_with fail
        refine (draw_gaps _ n c _ (hr.below HB53.out HB53.out.size)).mono ?_
        rintro e w55 ⟨Rz, mz, pz, rfl, hD⟩
        obtain ⟨hmz, ⟨lz, hsz⟩, hb⟩ := hD
        have HB56 := Lib.hid (bthen HB53.out hb HB53.out.size)
        have HSz_55 := Lib.hid hsz
        clear hsz hb
        have hlz : mz ≤ maxLen := by unfold maxLen; omega
        go_wp2_with fail
        refine (tgaps_impl _ _ _ lz _ HSz_55.out hlz).mono ?_
        rintro e w58 ⟨Aimpl, cimpl, rfl, hO, hb⟩
        have HB59 := Lib.hid (bthen HB56.out hb HB56.out.size)
        have HSz_60 := Lib.hid (spots_at HSz_55.out hb)
        have HOi := Lib.hid hO
        clear hO hb
        go_wp2_with fail
        refine (tgaps_spec _ _ _ lz _ HSz_60.out hlz).mono ?_
        rintro e w61 ⟨Aspec, cspec, rfl, hO, hb⟩
        have HOi2 := Lib.hid (HOi.out.on hb (Nat.le_refl _))
        have HB62 := Lib.hid (bthen HB59.out hb HB59.out.size)
        have HSz_63 := Lib.hid (spots_at HSz_60.out hb)
        have HOs := Lib.hid hO
        clear hO hb
        go_wp2_with fail
        refine (vI_same _ _ _ _ _ _ _ _ _ _ _ HOi2.out HOs.out (tgR_len lz)).mono ?_
        rintro e w' ⟨rfl, k9, rfl⟩
        have HZ := Lib.hid (bdrewN HB62.out k9)
        go_wp2_with fail
        go_ret
        exact ⟨rfl, HZ.out⟩
      · skip
        have HF3 := mw_facts hk3
        obtain ⟨f31, f32⟩ := HF3
        obtain ⟨n3, hn3⟩ : ∃ z, z = mwV ly v3 a3 b3 := ⟨_, rfl⟩
        rw [← hn3] at f31 f32
        try rw [← hn3]
        clear hn3
        clear hk3
        go_wp2_with fail
        refine (draw_gaps _ n c _ (hr.below HB53.out HB53.out.size)).mono ?_
        rintro e w65 ⟨Rz, mz, pz, rfl, hD⟩
        obtain ⟨hmz, ⟨lz, hsz⟩, hb⟩ := hD
        have HB66 := Lib.hid (bthen HB53.out hb HB53.out.size)
        have HSz_65 := Lib.hid hsz
        clear hsz hb
        have hlz : mz ≤ maxLen := by unfold maxLen; omega
        go_wp2_with fail
        refine (tgaps_impl _ _ _ lz _ HSz_65.out hlz).mono ?_
        rintro e w68 ⟨Aimpl, cimpl, rfl, hO, hb⟩
        have HB69 := Lib.hid (bthen HB66.out hb HB66.out.size)
        have HSz_70 := Lib.hid (spots_at HSz_65.out hb)
        have HOi := Lib.hid hO
        clear hO hb
        go_wp2_with fail
        refine (tgaps_spec _ _ _ lz _ HSz_70.out hlz).mono ?_
        rintro e w71 ⟨Aspec, cspec, rfl, hO, hb⟩
        have HOi2 := Lib.hid (HOi.out.on hb (Nat.le_refl _))
        have HB72 := Lib.hid (bthen HB69.out hb HB69.out.size)
        have HSz_73 := Lib.hid (spots_at HSz_70.out hb)
        have HOs := Lib.hid hO
        clear hO hb
        go_wp2_with fail
        refine (vI_same _ _ _ _ _ _ _ _ _ _ _ HOi2.out HOs.out (tgR_len lz)).mono ?_
        rintro e w' ⟨rfl, k9, rfl⟩
        have HZ := Lib.hid (bdrewN HB72.out k9)
        go_wp2_with fail
        go_ret
        exact ⟨rfl, HZ.out⟩
  · skip
    obtain ⟨⟨q1, q2, q3⟩, i0, q4, q5, q6, q7⟩ := hl_facts hk1
    have HQ7 := Lib.hid q7
    obtain ⟨NN, hNN⟩ : ∃ z, z = rlN lq (a + (i0 : Int)) := ⟨_, rfl⟩
    obtain ⟨DD, hDD⟩ : ∃ z, z = rlD lq (a + (i0 : Int)) := ⟨_, rfl⟩
    rw [q5, q6, ← hNN, ← hDD]
    have p0 := lo_parts (q7 i0 q4).1
    have nbd := rl_bd p0.1 p0.2.1
    rw [← hNN, ← hDD] at nbd
    have HND := Lib.hid (And.intro hNN hDD)
    have HI0 := Lib.hid q4
    clear hNN hDD q4 q5 q6 q7 p0 hk1
    go_wp2_with fail
    go_loopw [12, 13] (fun s i wr => ∃ (k : Nat) (t : Int) (q : Bool), t ≤ b + 1 ∧ a ≤ t ∧ Hid (t = a + (k : Int)) ∧ s = .bool q ∧ i = .int .i64 t ∧ Hid (i0 < k → q = true) ∧ Hid (Below w.heap.size w wr ∧ Spots wr wr.heap.size Rq mq lq)) (fun _ i _ => (b + 1 - intOf i).toNat)
    case atStart => exact ⟨0, a, false, by omega, Int.le_refl _, Lib.hid (by omega), rfl, rfl, Lib.hid (fun h => absurd h (by omega)), Lib.hid ⟨HB7.out, HSq_8.out⟩⟩
    case round =>
      obtain ⟨k, t, q, hk, hat, hT, rfl, rfl, hQ, hBS⟩ := hrel
      by_cases hlt : t ≤ b
      · skip
        have h7 := HQ7.out k (by have := hT.out; omega)
        rw [← hT.out] at h7
        have p1 := lo_parts h7.1
        have mbd := rl_bd p1.1 p1.2.1
        obtain ⟨N1, hN1⟩ : ∃ z, z = rlN lq t := ⟨_, rfl⟩
        obtain ⟨D1, hD1⟩ : ∃ z, z = rlD lq t := ⟨_, rfl⟩
        have HL1 : Hid (loN lq t = N1 ∧ loD lq t = (D1 : Int) ∧ loK lq t = true) := Lib.hid ⟨p1.2.2.1.trans hN1.symm, p1.2.2.2.trans (by rw [hD1]), h7.1⟩
        rw [← hN1, ← hD1] at mbd h7
        rw [← HND.out.1, ← HND.out.2] at h7
        have hcmp : ¬ NN * (D1 : Int) < N1 * (DD : Int) := by have := h7.2; omega
        have b1 := prod_bd (N := NN) (D := D1) nbd.2 mbd.1.2
        have b2 := prod_bd (N := N1) (D := DD) mbd.2 nbd.1.2
        obtain ⟨b11, b12⟩ := b1
        obtain ⟨b21, b22⟩ := b2
        have HEQ : Hid (k = i0 → N1 = NN ∧ D1 = DD) := Lib.hid fun h => by subst h; rw [hN1, hD1, hT.out]; exact ⟨HND.out.1.symm, HND.out.2.symm⟩
        clear h7 p1 hN1 hD1
        go_wp2_with fail
        refine (levelAt_v _ _ _ lq t _ _ _ HL1.out.1 HL1.out.2.1 HL1.out.2.2 _ hBS.out.2 hlq).mono ?_
        rintro e wz ⟨rfl, hb⟩
        have HBS := Lib.hid (And.intro (bthen hBS.out.1 hb hBS.out.1.size) (spots_at hBS.out.2 hb))
        clear hb
        have hd1 : decide (NN * (D1 : Int) < N1 * (DD : Int)) = false := decide_eq_false (by omega)
        by_cases he : N1 = NN ∧ D1 = DD
        · skip
          have he1 : (N1 == NN) = true := beq_iff_eq.2 he.1
          have he2 : ((D1 : Int) == (DD : Int)) = true := beq_iff_eq.2 (by rw [he.2])
          clear he
          rcases q with _ | _
          · go_wp2_with fail
            go_roundw
            case rel => exact ⟨k + 1, t + 1, true, by omega, by omega, Lib.hid (by have := hT.out; omega), by first | rfl | simp, by go_num, Lib.hid (fun _ => rfl), HBS⟩
            case measure => simp [intOf]; omega
          · go_wp2_with fail
            go_roundw
            case rel => exact ⟨k + 1, t + 1, true, by omega, by omega, Lib.hid (by have := hT.out; omega), by first | rfl | simp, by go_num, Lib.hid (fun _ => rfl), HBS⟩
            case measure => simp [intOf]; omega
        · skip
          have hki : k ≠ i0 := fun h => he (HEQ.out h)
          have HQ2 : Hid (i0 < k + 1 → q = true) := Lib.hid fun h => hQ.out (by omega)
          rcases q with _ | _
          · by_cases hn : N1 = NN
            · have he1 : (N1 == NN) = true := beq_iff_eq.2 hn
              have he2 : ((D1 : Int) == (DD : Int)) = false := beq_eq_false_iff_ne.2 (fun h => he ⟨hn, by omega⟩)
              clear he hn
              go_wp2_with fail
              go_roundw
              case rel => exact ⟨k + 1, t + 1, false, by omega, by omega, Lib.hid (by have := hT.out; omega), by first | rfl | simp, by go_num, HQ2, HBS⟩
              case measure => simp [intOf]; omega
            · have he1 : (N1 == NN) = false := beq_eq_false_iff_ne.2 hn
              clear he hn
              go_wp2_with fail
              go_roundw
              case rel => exact ⟨k + 1, t + 1, false, by omega, by omega, Lib.hid (by have := hT.out; omega), by first | rfl | simp, by go_num, HQ2, HBS⟩
              case measure => simp [intOf]; omega
          · clear he
            go_wp2_with fail
            go_roundw
            case rel => exact ⟨k + 1, t + 1, true, by omega, by omega, Lib.hid (by have := hT.out; omega), by first | rfl | simp, by go_num, Lib.hid (fun _ => rfl), HBS⟩
            case measure => simp [intOf]; omega
      · skip
        have hq : q = true := hQ.out (by have := hT.out; have := HI0.out; omega)
        subst hq
        have HBx := Lib.hid hBS.out.1
        go_wp2_with fail
        refine (draw_first _ n c _ (hr.below HBx.out HBx.out.size)).mono ?_
        rintro e w75 ⟨Rx, mx, px, v2, a2, rfl, hi_v2, hi_a2, hD⟩
        obtain ⟨hmx, ⟨lx, hsx⟩, hb⟩ := hD
        obtain ⟨v2_lo, v2_hi⟩ := hi_v2
        obtain ⟨a2_lo, a2_hi⟩ := hi_a2
        have HB76 := Lib.hid (bthen HBx.out hb HBx.out.size)
        have HSx_75 := Lib.hid hsx
        clear hsx hb
        have hlx : mx ≤ maxLen := by unfold maxLen; omega
        go_wp2_with fail
        refine (first_impl _ _ _ lx v2 a2 _ HSx_75.out hlx).mono ?_
        rintro e w77 ⟨rfl, hb⟩
        have HB78 := Lib.hid (bthen HB76.out hb HB76.out.size)
        have HSx_79 := Lib.hid (spots_at HSx_75.out hb)
        clear hb
        go_wp2_with fail
        refine (first_spec _ _ _ lx v2 a2 _ HSx_79.out hlx).mono ?_
        rintro e w80 ⟨rfl, hb⟩
        have HB81 := Lib.hid (bthen HB78.out hb HB78.out.size)
        have HSx_82 := Lib.hid (spots_at HSx_79.out hb)
        clear hb
        rcases hk2 : fmK lx v2 a2 with _ | _
        · skip
          clear hk2
          go_wp2_with fail
          refine (draw_minutes _ n c _ (hr.below HB81.out HB81.out.size)).mono ?_
          rintro e w83 ⟨Ry, my, py, v3, a3, b3, rfl, hi_v3, hi_a3, hi_b3, hD⟩
          obtain ⟨hmy, ⟨ly, hsy⟩, hb⟩ := hD
          obtain ⟨v3_lo, v3_hi⟩ := hi_v3
          obtain ⟨a3_lo, a3_hi⟩ := hi_a3
          obtain ⟨b3_lo, b3_hi⟩ := hi_b3
          have HB84 := Lib.hid (bthen HB81.out hb HB81.out.size)
          have HSy_83 := Lib.hid hsy
          clear hsy hb
          have hly : my ≤ maxLen := by unfold maxLen; omega
          go_wp2_with fail
          refine (minutes_impl _ _ _ ly v3 a3 b3 _ HSy_83.out hly).mono ?_
          rintro e w85 ⟨rfl, hb⟩
          have HB86 := Lib.hid (bthen HB84.out hb HB84.out.size)
          have HSy_87 := Lib.hid (spots_at HSy_83.out hb)
          clear hb
          go_wp2_with fail
          refine (minutes_spec _ _ _ ly v3 a3 b3 _ HSy_87.out hly).mono ?_
          rintro e w88 ⟨rfl, hb⟩
          have HB89 := Lib.hid (bthen HB86.out hb HB86.out.size)
          have HSy_90 := Lib.hid (spots_at HSy_87.out hb)
          clear hb
          rcases hk3 : mwK ly v3 a3 b3 with _ | _
          · skip
            clear hk3
            go_wp2_with fail
            refine (draw_gaps _ n c _ (hr.below HB89.out HB89.out.size)).mono ?_
            rintro e w91 ⟨Rz, mz, pz, rfl, hD⟩
            obtain ⟨hmz, ⟨lz, hsz⟩, hb⟩ := hD
            have HB92 := Lib.hid (bthen HB89.out hb HB89.out.size)
            have HSz_91 := Lib.hid hsz
            clear hsz hb
            have hlz : mz ≤ maxLen := by unfold maxLen; omega
            go_wp2_with fail
            refine (tgaps_impl _ _ _ lz _ HSz_91.out hlz).mono ?_
            rintro e w94 ⟨Aimpl, cimpl, rfl, hO, hb⟩
            have HB95 := Lib.hid (bthen HB92.out hb HB92.out.size)
            have HSz_96 := Lib.hid (spots_at HSz_91.out hb)
            have HOi := Lib.hid hO
            clear hO hb
            go_wp2_with fail
            refine (tgaps_spec _ _ _ lz _ HSz_96.out hlz).mono ?_
            rintro e w97 ⟨Aspec, cspec, rfl, hO, hb⟩
            have HOi2 := Lib.hid (HOi.out.on hb (Nat.le_refl _))
            have HB98 := Lib.hid (bthen HB95.out hb HB95.out.size)
            have HSz_99 := Lib.hid (spots_at HSz_96.out hb)
            have HOs := Lib.hid hO
            clear hO hb
            go_wp2_with fail
            refine (vI_same _ _ _ _ _ _ _ _ _ _ _ HOi2.out HOs.out (tgR_len lz)).mono ?_
            rintro e w' ⟨rfl, k9, rfl⟩
            have HZ := Lib.hid (bdrewN HB98.out k9)
            go_wp2_with fail
            go_ret
            exact ⟨rfl, HZ.out⟩
          · skip
            have HF3 := mw_facts hk3
            obtain ⟨f31, f32⟩ := HF3
            obtain ⟨n3, hn3⟩ : ∃ z, z = mwV ly v3 a3 b3 := ⟨_, rfl⟩
            rw [← hn3] at f31 f32
            try rw [← hn3]
            clear hn3
            clear hk3
            go_wp2_with fail
            refine (draw_gaps _ n c _ (hr.below HB89.out HB89.out.size)).mono ?_
            rintro e w101 ⟨Rz, mz, pz, rfl, hD⟩
            obtain ⟨hmz, ⟨lz, hsz⟩, hb⟩ := hD
            have HB102 := Lib.hid (bthen HB89.out hb HB89.out.size)
            have HSz_101 := Lib.hid hsz
            clear hsz hb
            have hlz : mz ≤ maxLen := by unfold maxLen; omega
            go_wp2_with fail
            refine (tgaps_impl _ _ _ lz _ HSz_101.out hlz).mono ?_
            rintro e w104 ⟨Aimpl, cimpl, rfl, hO, hb⟩
            have HB105 := Lib.hid (bthen HB102.out hb HB102.out.size)
            have HSz_106 := Lib.hid (spots_at HSz_101.out hb)
            have HOi := Lib.hid hO
            clear hO hb
            go_wp2_with fail
            refine (tgaps_spec _ _ _ lz _ HSz_106.out hlz).mono ?_
            rintro e w107 ⟨Aspec, cspec, rfl, hO, hb⟩
            have HOi2 := Lib.hid (HOi.out.on hb (Nat.le_refl _))
            have HB108 := Lib.hid (bthen HB105.out hb HB105.out.size)
            have HSz_109 := Lib.hid (spots_at HSz_106.out hb)
            have HOs := Lib.hid hO
            clear hO hb
            go_wp2_with fail
            refine (vI_same _ _ _ _ _ _ _ _ _ _ _ HOi2.out HOs.out (tgR_len lz)).mono ?_
            rintro e w' ⟨rfl, k9, rfl⟩
            have HZ := Lib.hid (bdrewN HB108.out k9)
            go_wp2_with fail
            go_ret
            exact ⟨rfl, HZ.out⟩
        · skip
          obtain ⟨g1, g2, g3⟩ := fm_facts hk2
          obtain ⟨f2, hf2⟩ : ∃ z, z = fmV lx v2 a2 := ⟨_, rfl⟩
          rw [← hf2] at g1 g2 g3
          try rw [← hf2]
          clear hf2 hk2
          go_wp2_with fail
          refine (minutes_impl _ _ _ lx v2 a2 f2 _ HSx_82.out hlx).mono ?_
          rw [MwPost_eq g1 g2]
          rintro e w111 ⟨rfl, hb⟩
          have HB112 := Lib.hid (bthen HB81.out hb HB81.out.size)
          clear hb g1 g2
          go_wp2_with fail
          refine (draw_minutes _ n c _ (hr.below HB112.out HB112.out.size)).mono ?_
          rintro e w113 ⟨Ry, my, py, v3, a3, b3, rfl, hi_v3, hi_a3, hi_b3, hD⟩
          obtain ⟨hmy, ⟨ly, hsy⟩, hb⟩ := hD
          obtain ⟨v3_lo, v3_hi⟩ := hi_v3
          obtain ⟨a3_lo, a3_hi⟩ := hi_a3
          obtain ⟨b3_lo, b3_hi⟩ := hi_b3
          have HB114 := Lib.hid (bthen HB112.out hb HB112.out.size)
          have HSy_113 := Lib.hid hsy
          clear hsy hb
          have hly : my ≤ maxLen := by unfold maxLen; omega
          go_wp2_with fail
          refine (minutes_impl _ _ _ ly v3 a3 b3 _ HSy_113.out hly).mono ?_
          rintro e w115 ⟨rfl, hb⟩
          have HB116 := Lib.hid (bthen HB114.out hb HB114.out.size)
          have HSy_117 := Lib.hid (spots_at HSy_113.out hb)
          clear hb
          go_wp2_with fail
          refine (minutes_spec _ _ _ ly v3 a3 b3 _ HSy_117.out hly).mono ?_
          rintro e w118 ⟨rfl, hb⟩
          have HB119 := Lib.hid (bthen HB116.out hb HB116.out.size)
          have HSy_120 := Lib.hid (spots_at HSy_117.out hb)
          clear hb
          rcases hk3 : mwK ly v3 a3 b3 with _ | _
          · skip
            clear hk3
            go_wp2_with fail
            refine (draw_gaps _ n c _ (hr.below HB119.out HB119.out.size)).mono ?_
            rintro e w121 ⟨Rz, mz, pz, rfl, hD⟩
            obtain ⟨hmz, ⟨lz, hsz⟩, hb⟩ := hD
            have HB122 := Lib.hid (bthen HB119.out hb HB119.out.size)
            have HSz_121 := Lib.hid hsz
            clear hsz hb
            have hlz : mz ≤ maxLen := by unfold maxLen; omega
            go_wp2_with fail
            refine (tgaps_impl _ _ _ lz _ HSz_121.out hlz).mono ?_
            rintro e w124 ⟨Aimpl, cimpl, rfl, hO, hb⟩
            have HB125 := Lib.hid (bthen HB122.out hb HB122.out.size)
            have HSz_126 := Lib.hid (spots_at HSz_121.out hb)
            have HOi := Lib.hid hO
            clear hO hb
            go_wp2_with fail
            refine (tgaps_spec _ _ _ lz _ HSz_126.out hlz).mono ?_
            rintro e w127 ⟨Aspec, cspec, rfl, hO, hb⟩
            have HOi2 := Lib.hid (HOi.out.on hb (Nat.le_refl _))
            have HB128 := Lib.hid (bthen HB125.out hb HB125.out.size)
            have HSz_129 := Lib.hid (spots_at HSz_126.out hb)
            have HOs := Lib.hid hO
            clear hO hb
            go_wp2_with fail
            refine (vI_same _ _ _ _ _ _ _ _ _ _ _ HOi2.out HOs.out (tgR_len lz)).mono ?_
            rintro e w' ⟨rfl, k9, rfl⟩
            have HZ := Lib.hid (bdrewN HB128.out k9)
            go_wp2_with fail
            go_ret
            exact ⟨rfl, HZ.out⟩
          · skip
            have HF3 := mw_facts hk3
            obtain ⟨f31, f32⟩ := HF3
            obtain ⟨n3, hn3⟩ : ∃ z, z = mwV ly v3 a3 b3 := ⟨_, rfl⟩
            rw [← hn3] at f31 f32
            try rw [← hn3]
            clear hn3
            clear hk3
            go_wp2_with fail
            refine (draw_gaps _ n c _ (hr.below HB119.out HB119.out.size)).mono ?_
            rintro e w131 ⟨Rz, mz, pz, rfl, hD⟩
            obtain ⟨hmz, ⟨lz, hsz⟩, hb⟩ := hD
            have HB132 := Lib.hid (bthen HB119.out hb HB119.out.size)
            have HSz_131 := Lib.hid hsz
            clear hsz hb
            have hlz : mz ≤ maxLen := by unfold maxLen; omega
            go_wp2_with fail
            refine (tgaps_impl _ _ _ lz _ HSz_131.out hlz).mono ?_
            rintro e w134 ⟨Aimpl, cimpl, rfl, hO, hb⟩
            have HB135 := Lib.hid (bthen HB132.out hb HB132.out.size)
            have HSz_136 := Lib.hid (spots_at HSz_131.out hb)
            have HOi := Lib.hid hO
            clear hO hb
            go_wp2_with fail
            refine (tgaps_spec _ _ _ lz _ HSz_136.out hlz).mono ?_
            rintro e w137 ⟨Aspec, cspec, rfl, hO, hb⟩
            have HOi2 := Lib.hid (HOi.out.on hb (Nat.le_refl _))
            have HB138 := Lib.hid (bthen HB135.out hb HB135.out.size)
            have HSz_139 := Lib.hid (spots_at HSz_136.out hb)
            have HOs := Lib.hid hO
            clear hO hb
            go_wp2_with fail
            refine (vI_same _ _ _ _ _ _ _ _ _ _ _ HOi2.out HOs.out (tgR_len lz)).mono ?_
            rintro e w' ⟨rfl, k9, rfl⟩
            have HZ := Lib.hid (bdrewN HB138.out k9)
            go_wp2_with fail
            go_ret
            exact ⟨rfl, HZ.out⟩

/-! ### The row's step. -/
set_option maxRecDepth 100000 in
theorem lifted (os : Os) (started : os.Started) (H : Type) (enc : TypeId × Value → H) :
    ReturnsInHanded {} Try.checked os 5 .any (Rows.fnHighWatersSpec.pre6 enc Try.prog Try.f5 Rows.fnHighWatersRow.domain false) (Rows.fnHighWatersSpec.post enc Try.prog Try.f5 false true false false) := by
  refine returnsInHanded_of_change (C := Try.checked) own started (by kernel_rfl) Try.func5
    (ChangeSpec.witness6 (enc := enc) (C := Try.checked) false ⟨#[], #[.slice none 0 0], []⟩ 8 (by kernel_rfl) (by kernel_rfl) (by kernel_rfl) (by kernel_rfl)) ?_
  intro W base args ds gs before hval0 hW hcnd _
  have hval : ∀ (j : Nat) t v, Try.f5.params[j]? = some t → args[j]? = some v → Value.okWide Try.prog W .any base t v := hval0
  have hW' := hW
  obtain ⟨p, q, hA0, hV, rfl, hfz, hnd⟩ := hW
  have hA : DataW.TrodAll enc Try.prog W 0 (fun _ => true) true Try.f5.params.toList args.toList ds p := hA0
  rw [Try.params5] at hA hval
  obtain ⟨v0, vs0, d0, ds0, p0, q0, hargs, rfl, rfl, h0, r0⟩ := trodAll_cons hA
  obtain ⟨rfl, rfl, rfl⟩ := trodAll_nil r0
  obtain rfl : args = #[v0] := by cases args; simp_all
  obtain ⟨rfl, rfl⟩ := trodVars_none hV
  have k0 := h0
  have lt0 : ∀ x ∈ p0, x.block < W.heap.size := by obtain ⟨m, hm⟩ := k0; exact DataW.trod_lt m _ _ _ hm
  obtain ⟨A0, n0, c0, rfl⟩ := okWide_slice Try.underlying22 (hval 0 22 v0 rfl rfl)
  obtain ⟨m0, w0⟩ := open_code h0
  clear hA0 hval0
  refine (walk A0 n0 c0 W m0 w0).mono fun e W1 ⟨he, bel⟩ => ?_
  subst he
  exact ⟨_, rfl, _, _, _, [], _, [], hW', trodAll_mk1 (shut_bool Try.underlying4 _), (trodAll_cons_mk (Below.trod laidOut (by kernel_rfl) (of_decide_eq_true (by kernel_rfl)) k0 bel lt0) trodAll_mk0), rfl, bel.frame _, fun h => by cases h⟩

/-- The statement. -/
theorem proved : Rows.FnHighWatersSaid :=
  OpenClaim.holds_of_wide 5 Try.f5 rfl rfl rfl rfl rfl rfl rfl ⟨rfl, rfl, rfl, rfl, rfl⟩ rfl rfl rfl rfl rfl (by kernel_rfl) Try.func5 (by kernel_rfl)
    (of_decide_eq_true (by kernel_rfl)) (by unfold Func.isWrapper; first | (rw [if_pos (by decide +kernel)]; kernel_rfl) | (rw [if_neg (by decide +kernel)]; exact ⟨rfl, rfl⟩))
    (fun os started H enc _ => lifted os started H enc)
#print axioms proved
end Go.Proofs.Ytdmnkmdlochogaa.fnHighWaters
