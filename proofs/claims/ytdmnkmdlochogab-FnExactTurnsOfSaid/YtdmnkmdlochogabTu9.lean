/-
  Turns: contract of spec.TurnsOf over this translation. Conditions: stated at each theorem.
-/
import Derived.Test.YtdmnkmdlochogabSw9
import Derived.Test.YtdmnkmdlochogabLd
namespace Go.Proofs.Ytdmnkmdlochogab
open Go.RowKit
set_option linter.unusedVariables false
set_option linter.unusedSimpArgs false

def tuR (L : List LN) : Int := if lnsB L then tuK (ordS L) (L.length - 1) else 0
theorem tuN_bd {L : List LN} (h : Good9 L) {k : Nat} (hk : k + 1 ≤ L.length) : -14000 ≤ tuK (ordS L) k ∧ tuK (ordS L) k ≤ 14000 := by
  have h1 := tuK_le (M := ordS L) (fun v hv => h.mem ((ordS_perm L).mem_iff.1 hv)) k (by rw [ordS_len]; omega)
  have := h.max
  omega
theorem ord_mem {L : List LN} (h : Good9 L) {k : Nat} {u : LN} (hk : (ordS L)[k]? = some u) : lnB u = true := h.mem ((ordS_perm L).mem_iff.1 (List.mem_of_getElem? hk))
theorem ord_le {L : List LN} (h : Good9 L) {k : Nat} {a b : LN} (ha : (ordS L)[k]? = some a) (hb : (ordS L)[k + 1]? = some b) : a.y ≤ b.y := by
  have hs := ordS_sorted h
  have h1 := (List.getElem?_eq_some_iff.1 ha)
  have h2 := (List.getElem?_eq_some_iff.1 hb)
  obtain ⟨i1, e1⟩ := h1
  obtain ⟨i2, e2⟩ := h2
  have := (List.pairwise_iff_getElem.1 hs) k (k + 1) i1 i2 (by omega)
  rw [e1, e2] at this
  unfold sbB at this
  omega
set_option maxRecDepth 20000 in
set_option maxHeartbeats 6400000 in
theorem turns_spec (A : Option Addr) (n c0 : Nat) (L : List LN) (w : World) (hs : SdsN w w.heap.size A n L) (hm : n ≤ maxLen) :
    Calls Try.prog 25 #[.slice A n c0] w (NumPost (tuR L) (lnsB L) w) := by
  obtain rfl := hs.1
  have HS := Lib.hid hs
  clear hs
  rcases h1 : lnsB L with _ | _
  · have H1 := Lib.hid h1
    have HR : Hid ((0 : Int) = tuR L) := by unfold Hid tuR; rw [h1]; rfl
    clear h1
    go_enter Try.func25, Try.ntmps25
    go_wp2_with fail
    refine (lgood_spec_v A L.length c0 L _ H1.out _ HS.out hm).mono ?_
    rintro e w1 ⟨rfl, hb⟩
    have HX := Lib.hid hb
    clear hb
    go_wp2_with fail
    go_ret2
    exact num_post HR.out rfl HX.out
  have H1 := Lib.hid h1
  have HG := Lib.hid (good9_of h1)
  have h8 := HG.out.max
  have HR : Hid (tuK (ordS L) (L.length - 1) = tuR L) := by unfold Hid tuR; rw [h1]; rfl
  clear h1
  go_enter Try.func25, Try.ntmps25
  go_wp2_with fail
  refine (lgood_spec_v A L.length c0 L _ H1.out _ HS.out hm).mono ?_
  rintro e w1 ⟨rfl, hb⟩
  have HX := Lib.hid hb
  clear hb
  go_wp2_with fail
  refine (order_spec A L.length c0 L HG.out _ (sds_atN HS.out HX.out) hm).mono ?_
  rintro e w2 ⟨A2, c2, rfl, ho, hb⟩
  have HO := Lib.hid ho.sds
  have HX2 := Lib.hid (bthen HX.out hb HX.out.size)
  clear ho hb
  go_wp2_with fail
  go_loopw [5, 6] (fun s z wr => ∃ (k : Nat) (x : Int), (k + 1 ≤ L.length ∨ k = 0) ∧ -14000 ≤ x ∧ x ≤ 14000 ∧ z = .int .i64 ((k + 1 : Nat) : Int) ∧ s = .int .i64 x ∧ Hid (x = tuK (ordS L) k) ∧ Hid (Below w2.heap.size w2 wr)) (fun _ z _ => L.length + 1 - (intOf z).toNat)
  case atStart => exact ⟨0, 0, .inr rfl, by decide, by decide, rfl, rfl, Lib.hid rfl, Lib.hid (Below.refl _ _)⟩
  case round =>
    obtain ⟨k, x, hk, hx0, hx1, rfl, rfl, hT, hB⟩ := hrel
    obtain ⟨wq, hwq⟩ : ∃ wq : World, wq = wr := ⟨_, rfl⟩
    rw [← hwq] at hB ⊢
    clear hwq
    by_cases hlt : k + 1 < L.length
    · obtain ⟨b1, o1, ua, rfl, hbl, hL, c0, c1, c2, c3, c4⟩ := (sds_atN HO.out hB.out).2 k (by omega)
      obtain ⟨b2, o2, ub, hA2, hbl2, hL2, d0, d1, d2, d3, d4⟩ := (sds_atN HO.out hB.out).2 (k + 1) hlt
      obtain ⟨rfl, rfl⟩ : b1 = b2 ∧ o1 = o2 := by injection hA2 with h; injection h with h h'; exact ⟨h, h'⟩
      obtain ⟨p1, p2, p3, p4, p5, p6⟩ := lnB_parts (ord_mem HG.out hL)
      obtain ⟨q1, q2, q3, q4, q5, q6⟩ := lnB_parts (ord_mem HG.out hL2)
      have hle := ord_le HG.out hL hL2
      have HTN : Hid (tuK (ordS L) (k + 1) = tuK (ordS L) k + tuB ua ub ((k + 1) % 2 == 0)) := by unfold Hid; rw [tuK, lnAt_at hL, lnAt_at hL2]
      have HBN := Lib.hid (tuN_bd HG.out (k := k + 1) (by omega))
      have HX9 : Hid (Below w.heap.size w wq) := Lib.hid (bthen HX2.out hB.out HX2.out.size)
      clear hA2 hL hL2 hbl2
      go_wp2_with fail
      have lc0 := lcell c0
      have lc1 := lcell c1
      have lc2 := lcell c2
      have lc3 := lcell c3
      have lc4 := lcell c4
      have ld0 := lcell d0
      have ld1 := lcell d1
      have ld2 := lcell d2
      have ld3 := lcell d3
      have ld4 := lcell d4
      refine region_reads (W := wq) 12 4 [0, 1, 2, 3, 4, 5, 6, 7, 8] (by kernel_rfl) (by kernel_rfl) rfl (Below.refl _ _) (fun d _ _ _ _ h => by cases d <;> exact h) ?_
      simp only [picks, List.getElem?_cons_succ, List.getElem?_cons_zero]
      repeat (go_big_quiet_step (fail))
      refine wpQuiet_nil ?_
      intro W3 hW1
      have HL0 : Hid (Below wq.heap.size wq W3) := by obtain ⟨x, rfl⟩ := hW1; exact Lib.hid x.below
      clear hW1 lc0 lc1 lc2 lc3 lc4 ld0 ld1 ld2 ld3 ld4 c0 c1 c2 c3 c4 d0 d1 d2 d3 d4
      refine wpAnyN_two (i := 9) (i' := 10) (by kernel_rfl) ?_ ?_
      · refine wpOp_step rfl (fun K hK => ?_)
        rw [if_pos (by rfl)]
        have HB4 := Lib.hid (HL0.out.alloc HL0.out.size (.cells #[.int .i64 0, .int .i64 0, .int .i64 0, .int .i64 0, .int .i64 0] 34))
        go_simp
        refine hK _ _ ⟨⟨⟨_, HB4.out⟩, rfl⟩, ?_⟩
        clear hK K
        refine wpAnyN_one (i := 10) (by kernel_rfl) ?_
        refine wpOp_step rfl (fun K hK => ?_)
        rw [if_pos (by rfl)]
        have HB5 := Lib.hid (HB4.out.alloc HB4.out.size (.cells #[.int .i64 0, .int .i64 0, .int .i64 0, .int .i64 0, .int .i64 0] 34))
        have HV0 := Lib.hid (box2 (w := W3) (cs := #[.int .i64 0, .int .i64 0, .int .i64 0, .int .i64 0, .int .i64 0]) (ds := #[.int .i64 0, .int .i64 0, .int .i64 0, .int .i64 0, .int .i64 0]) (T := 34) (T' := 34) (Below.refl _ _))
        go_simp
        refine hK _ _ ⟨⟨⟨_, HB5.out⟩, rfl⟩, ?_⟩
        clear hK K
        obtain ⟨V, hV⟩ : ∃ V, V = (W3.alloc (.cells #[.int .i64 0, .int .i64 0, .int .i64 0, .int .i64 0, .int .i64 0] 34)).alloc (.cells #[.int .i64 0, .int .i64 0, .int .i64 0, .int .i64 0, .int .i64 0] 34) := ⟨_, rfl⟩
        rw [← hV]
        rw [← hV] at HB5 HV0
        clear hV HB4
        have HA : Hid (Has V (W3.heap.size) [.int .i64 0, .int .i64 0, .int .i64 0, .int .i64 0, .int .i64 0] ∧ Has V (W3.heap.size + 1) [.int .i64 0, .int .i64 0, .int .i64 0, .int .i64 0, .int .i64 0]) := Lib.hid ⟨HV0.out.2.1, HV0.out.2.2⟩
        have HGE : Hid (wq.heap.size ≤ W3.heap.size) := Lib.hid HL0.out.size
        have e0 := HA.out.1.at_ 0 _ rfl
        have e1 := HA.out.1.at_ 1 _ rfl
        have e2 := HA.out.1.at_ 2 _ rfl
        have e3 := HA.out.1.at_ 3 _ rfl
        have e4 := HA.out.1.at_ 4 _ rfl
        have f0 := HA.out.1.free 0
        have f1 := HA.out.1.free 1
        have f2 := HA.out.1.free 2
        have f3 := HA.out.1.free 3
        have f4 := HA.out.1.free 4
        have HB6 := Lib.hid (setL_below [.int .i64 ua.id, .int .i64 ua.y, .int .i64 ua.fr, .int .i64 ua.to, .int .i64 ua.sw] HB5.out (show wq.heap.size ≤ W3.heap.size by have := HGE.out; omega) 0)
        refine wpAnyN_one (i := 11) (by kernel_rfl) ?_
        refine wpOp_step rfl (fun K hK => ?_)
        rw [if_pos (by rfl)]
        go_simp
        refine hK _ _ ⟨⟨⟨_, HB6.out⟩, rfl⟩, ?_⟩
        clear hK K e0 e1 e2 e3 e4 f0 f1 f2 f3 f4
        obtain ⟨V2, hV⟩ : ∃ V2, V2 = setL V (W3.heap.size) 0 [.int .i64 ua.id, .int .i64 ua.y, .int .i64 ua.fr, .int .i64 ua.to, .int .i64 ua.sw] := ⟨_, rfl⟩
        rw [show (((((V.setCell ⟨W3.heap.size, 0, none⟩ (.int .i64 ua.id)).setCell ⟨W3.heap.size, 1, none⟩ (.int .i64 ua.y)).setCell ⟨W3.heap.size, 2, none⟩ (.int .i64 ua.fr)).setCell ⟨W3.heap.size, 3, none⟩ (.int .i64 ua.to)).setCell ⟨W3.heap.size, 4, none⟩ (.int .i64 ua.sw)) = V2 from hV.symm]
        rw [← hV] at HB6
        have HA2 : Hid (Has V2 (W3.heap.size) [.int .i64 ua.id, .int .i64 ua.y, .int .i64 ua.fr, .int .i64 ua.to, .int .i64 ua.sw] ∧ Has V2 (W3.heap.size + 1) [.int .i64 0, .int .i64 0, .int .i64 0, .int .i64 0, .int .i64 0]) := by rw [hV]; exact Lib.hid ⟨has_lineN HA.out.1 ua, has_otherN HA.out.2 (by omega) 0 [.int .i64 ua.id, .int .i64 ua.y, .int .i64 ua.fr, .int .i64 ua.to, .int .i64 ua.sw]⟩
        clear hV HA
        have e0 := HA2.out.2.at_ 0 _ rfl
        have e1 := HA2.out.2.at_ 1 _ rfl
        have e2 := HA2.out.2.at_ 2 _ rfl
        have e3 := HA2.out.2.at_ 3 _ rfl
        have e4 := HA2.out.2.at_ 4 _ rfl
        have f0 := HA2.out.2.free 0
        have f1 := HA2.out.2.free 1
        have f2 := HA2.out.2.free 2
        have f3 := HA2.out.2.free 3
        have f4 := HA2.out.2.free 4
        have HB7 := Lib.hid (setL_below [.int .i64 ub.id, .int .i64 ub.y, .int .i64 ub.fr, .int .i64 ub.to, .int .i64 ub.sw] HB6.out (show wq.heap.size ≤ W3.heap.size + 1 by have := HGE.out; omega) 0)
        obtain ⟨V3, hV⟩ : ∃ V3, V3 = setL V2 (W3.heap.size + 1) 0 [.int .i64 ub.id, .int .i64 ub.y, .int .i64 ub.fr, .int .i64 ub.to, .int .i64 ub.sw] := ⟨_, rfl⟩
        rw [← hV] at HB7
        have HA3 : Hid (Has V3 (W3.heap.size) [.int .i64 ua.id, .int .i64 ua.y, .int .i64 ua.fr, .int .i64 ua.to, .int .i64 ua.sw] ∧ Has V3 (W3.heap.size + 1) [.int .i64 ub.id, .int .i64 ub.y, .int .i64 ub.fr, .int .i64 ub.to, .int .i64 ub.sw]) := by rw [hV]; exact Lib.hid ⟨has_otherN HA2.out.1 (by omega) 0 [.int .i64 ub.id, .int .i64 ub.y, .int .i64 ub.fr, .int .i64 ub.to, .int .i64 ub.sw], has_lineN HA2.out.2 ub⟩
        have HE := Lib.hid hV
        clear hV HA2
        have HY := Lib.hid (bthen HX9.out HB7.out HX9.out.size)
        refine wpAnyN_end rfl (by kernel_rfl) rfl ?_
        simp only [List.drop_succ_cons, List.drop_zero]
        go_upto_region 8 with fail
        rw [show (((((V2.setCell ⟨W3.heap.size + 1, 0, none⟩ (.int .i64 ub.id)).setCell ⟨W3.heap.size + 1, 1, none⟩ (.int .i64 ub.y)).setCell ⟨W3.heap.size + 1, 2, none⟩ (.int .i64 ub.fr)).setCell ⟨W3.heap.size + 1, 3, none⟩ (.int .i64 ub.to)).setCell ⟨W3.heap.size + 1, 4, none⟩ (.int .i64 ub.sw)) = V3 from HE.out.symm]
        clear e0 e1 e2 e3 e4 f0 f1 f2 f3 f4 HE
        obtain ⟨a0, a1, a2, a3, a4⟩ := five_at HA3.out.1
        obtain ⟨b0, b1, b2', b3, b4⟩ := five_at HA3.out.2
        rcases Nat.mod_two_eq_zero_or_one (k + 1) with hev | hev
        · have hrem : ((((k + 1 : Nat) : Int)).tmod 2 == 0) = true := beq_iff_eq.2 (by rw [Int.tmod_eq_emod_of_nonneg (by omega)]; omega)
          have hrem2 : (((k : Int) + 1).tmod 2 == 0) = true := beq_iff_eq.2 (by rw [Int.tmod_eq_emod_of_nonneg (by omega)]; omega)
          obtain ⟨R, hR⟩ : ∃ R, max (ua.fr - ub.fr) (-(ua.fr - ub.fr)) = R := ⟨_, rfl⟩
          have hRb : 0 ≤ R ∧ R ≤ 1000 := by omega
          have HMR := Lib.hid hR
          clear hR
          go_wp2_with fail
          have HXX : Hid (x + ub.y - ua.y + R = tuK (ordS L) (k + 1)) := by
            unfold Hid
            rw [HTN.out, ← hT.out, show ((k + 1) % 2 == 0) = true by simp; omega]
            unfold tuB
            simp only [if_true, if_false, Bool.false_eq_true]
            rw [HMR.out]
            omega
          have hbn := HBN.out
          rw [← HXX.out] at hbn
          have lc0 := lcell (a0)
          have lc1 := lcell (a1)
          have lc2 := lcell (a2)
          have lc3 := lcell (a3)
          have lc4 := lcell (a4)
          have lc5 := lcell (b0)
          have lc6 := lcell (b1)
          have lc7 := lcell (b2')
          have lc8 := lcell (b3)
          have lc9 := lcell (b4)
          refine region_later (W := V3) (by kernel_rfl) (by kernel_rfl) (Below.refl _ _) ?_
          repeat (go_big_quiet_step (((go_at_call 97; with_reducible exact later_same (most_v _ _ R HMR.out _)))))
          refine wpQuiet_nil ?_
          intro V4 hW1
          have HL : Hid (Below V3.heap.size V3 V4) := by obtain ⟨x, rfl⟩ := hW1; exact Lib.hid x.below
          clear hW1 lc0 lc1 lc2 lc3 lc4 lc5 lc6 lc7 lc8 lc9
          have HB4 := Lib.hid (bthen hB.out (bthen HB7.out HL.out HB7.out.size) hB.out.size)
          clear a0 a1 a2 a3 a4 b0 b1 b2' b3 b4
          go_wp2_with fail
          go_roundw
          case rel => first | exact ⟨k + 1, x + ub.y - ua.y + R, .inl (by omega), hbn.1, hbn.2, by go_num, by first | rfl | go_num, HXX, HB4⟩ | ((repeat apply Exists.intro); exact ⟨⟨k + 1, x + ub.y - ua.y + R, .inl (by omega), hbn.1, hbn.2, by go_num, by first | rfl | go_num, HXX, HB4⟩, rfl⟩)
          case measure => simp [intOf]; omega
        · have hrem : ((((k + 1 : Nat) : Int)).tmod 2 == 0) = false := beq_eq_false_iff_ne.2 (by rw [Int.tmod_eq_emod_of_nonneg (by omega)]; omega)
          have hrem2 : (((k : Int) + 1).tmod 2 == 0) = false := beq_eq_false_iff_ne.2 (by rw [Int.tmod_eq_emod_of_nonneg (by omega)]; omega)
          obtain ⟨R, hR⟩ : ∃ R, max (ua.to - ub.to) (-(ua.to - ub.to)) = R := ⟨_, rfl⟩
          have hRb : 0 ≤ R ∧ R ≤ 1000 := by omega
          have HMR := Lib.hid hR
          clear hR
          go_wp2_with fail
          have HXX : Hid (x + ub.y - ua.y + R = tuK (ordS L) (k + 1)) := by
            unfold Hid
            rw [HTN.out, ← hT.out, show ((k + 1) % 2 == 0) = false by simp; omega]
            unfold tuB
            simp only [if_true, if_false, Bool.false_eq_true]
            rw [HMR.out]
            omega
          have hbn := HBN.out
          rw [← HXX.out] at hbn
          have lc0 := lcell (a0)
          have lc1 := lcell (a1)
          have lc2 := lcell (a2)
          have lc3 := lcell (a3)
          have lc4 := lcell (a4)
          have lc5 := lcell (b0)
          have lc6 := lcell (b1)
          have lc7 := lcell (b2')
          have lc8 := lcell (b3)
          have lc9 := lcell (b4)
          refine region_later (W := V3) (by kernel_rfl) (by kernel_rfl) (Below.refl _ _) ?_
          repeat (go_big_quiet_step (((go_at_call 97; with_reducible exact later_same (most_v _ _ R HMR.out _)))))
          refine wpQuiet_nil ?_
          intro V4 hW1
          have HL : Hid (Below V3.heap.size V3 V4) := by obtain ⟨x, rfl⟩ := hW1; exact Lib.hid x.below
          clear hW1 lc0 lc1 lc2 lc3 lc4 lc5 lc6 lc7 lc8 lc9
          have HB4 := Lib.hid (bthen hB.out (bthen HB7.out HL.out HB7.out.size) hB.out.size)
          clear a0 a1 a2 a3 a4 b0 b1 b2' b3 b4
          go_wp2_with fail
          go_roundw
          case rel => first | exact ⟨k + 1, x + ub.y - ua.y + R, .inl (by omega), hbn.1, hbn.2, by go_num, by first | rfl | go_num, HXX, HB4⟩ | ((repeat apply Exists.intro); exact ⟨⟨k + 1, x + ub.y - ua.y + R, .inl (by omega), hbn.1, hbn.2, by go_num, by first | rfl | go_num, HXX, HB4⟩, rfl⟩)
          case measure => simp [intOf]; omega
      · refine wpOp_step rfl (fun K hK => ?_)
        rw [if_pos (by rfl)]
        have HB4 := Lib.hid (HL0.out.alloc HL0.out.size (.cells #[.int .i64 0, .int .i64 0, .int .i64 0, .int .i64 0, .int .i64 0] 34))
        go_simp
        refine hK _ _ ⟨⟨⟨_, HB4.out⟩, rfl⟩, ?_⟩
        clear hK K
        refine wpAnyN_one (i := 9) (by kernel_rfl) ?_
        refine wpOp_step rfl (fun K hK => ?_)
        rw [if_pos (by rfl)]
        have HB5 := Lib.hid (HB4.out.alloc HB4.out.size (.cells #[.int .i64 0, .int .i64 0, .int .i64 0, .int .i64 0, .int .i64 0] 34))
        have HV0 := Lib.hid (box2 (w := W3) (cs := #[.int .i64 0, .int .i64 0, .int .i64 0, .int .i64 0, .int .i64 0]) (ds := #[.int .i64 0, .int .i64 0, .int .i64 0, .int .i64 0, .int .i64 0]) (T := 34) (T' := 34) (Below.refl _ _))
        go_simp
        refine hK _ _ ⟨⟨⟨_, HB5.out⟩, rfl⟩, ?_⟩
        clear hK K
        obtain ⟨V, hV⟩ : ∃ V, V = (W3.alloc (.cells #[.int .i64 0, .int .i64 0, .int .i64 0, .int .i64 0, .int .i64 0] 34)).alloc (.cells #[.int .i64 0, .int .i64 0, .int .i64 0, .int .i64 0, .int .i64 0] 34) := ⟨_, rfl⟩
        rw [← hV]
        rw [← hV] at HB5 HV0
        clear hV HB4
        have HA : Hid (Has V (W3.heap.size + 1) [.int .i64 0, .int .i64 0, .int .i64 0, .int .i64 0, .int .i64 0] ∧ Has V (W3.heap.size) [.int .i64 0, .int .i64 0, .int .i64 0, .int .i64 0, .int .i64 0]) := Lib.hid ⟨HV0.out.2.2, HV0.out.2.1⟩
        have HGE : Hid (wq.heap.size ≤ W3.heap.size) := Lib.hid HL0.out.size
        have e0 := HA.out.1.at_ 0 _ rfl
        have e1 := HA.out.1.at_ 1 _ rfl
        have e2 := HA.out.1.at_ 2 _ rfl
        have e3 := HA.out.1.at_ 3 _ rfl
        have e4 := HA.out.1.at_ 4 _ rfl
        have f0 := HA.out.1.free 0
        have f1 := HA.out.1.free 1
        have f2 := HA.out.1.free 2
        have f3 := HA.out.1.free 3
        have f4 := HA.out.1.free 4
        have HB6 := Lib.hid (setL_below [.int .i64 ua.id, .int .i64 ua.y, .int .i64 ua.fr, .int .i64 ua.to, .int .i64 ua.sw] HB5.out (show wq.heap.size ≤ W3.heap.size + 1 by have := HGE.out; omega) 0)
        refine wpAnyN_one (i := 11) (by kernel_rfl) ?_
        refine wpOp_step rfl (fun K hK => ?_)
        rw [if_pos (by rfl)]
        go_simp
        refine hK _ _ ⟨⟨⟨_, HB6.out⟩, rfl⟩, ?_⟩
        clear hK K e0 e1 e2 e3 e4 f0 f1 f2 f3 f4
        obtain ⟨V2, hV⟩ : ∃ V2, V2 = setL V (W3.heap.size + 1) 0 [.int .i64 ua.id, .int .i64 ua.y, .int .i64 ua.fr, .int .i64 ua.to, .int .i64 ua.sw] := ⟨_, rfl⟩
        rw [show (((((V.setCell ⟨W3.heap.size + 1, 0, none⟩ (.int .i64 ua.id)).setCell ⟨W3.heap.size + 1, 1, none⟩ (.int .i64 ua.y)).setCell ⟨W3.heap.size + 1, 2, none⟩ (.int .i64 ua.fr)).setCell ⟨W3.heap.size + 1, 3, none⟩ (.int .i64 ua.to)).setCell ⟨W3.heap.size + 1, 4, none⟩ (.int .i64 ua.sw)) = V2 from hV.symm]
        rw [← hV] at HB6
        have HA2 : Hid (Has V2 (W3.heap.size + 1) [.int .i64 ua.id, .int .i64 ua.y, .int .i64 ua.fr, .int .i64 ua.to, .int .i64 ua.sw] ∧ Has V2 (W3.heap.size) [.int .i64 0, .int .i64 0, .int .i64 0, .int .i64 0, .int .i64 0]) := by rw [hV]; exact Lib.hid ⟨has_lineN HA.out.1 ua, has_otherN HA.out.2 (by omega) 0 [.int .i64 ua.id, .int .i64 ua.y, .int .i64 ua.fr, .int .i64 ua.to, .int .i64 ua.sw]⟩
        clear hV HA
        have e0 := HA2.out.2.at_ 0 _ rfl
        have e1 := HA2.out.2.at_ 1 _ rfl
        have e2 := HA2.out.2.at_ 2 _ rfl
        have e3 := HA2.out.2.at_ 3 _ rfl
        have e4 := HA2.out.2.at_ 4 _ rfl
        have f0 := HA2.out.2.free 0
        have f1 := HA2.out.2.free 1
        have f2 := HA2.out.2.free 2
        have f3 := HA2.out.2.free 3
        have f4 := HA2.out.2.free 4
        have HB7 := Lib.hid (setL_below [.int .i64 ub.id, .int .i64 ub.y, .int .i64 ub.fr, .int .i64 ub.to, .int .i64 ub.sw] HB6.out (show wq.heap.size ≤ W3.heap.size by have := HGE.out; omega) 0)
        obtain ⟨V3, hV⟩ : ∃ V3, V3 = setL V2 (W3.heap.size) 0 [.int .i64 ub.id, .int .i64 ub.y, .int .i64 ub.fr, .int .i64 ub.to, .int .i64 ub.sw] := ⟨_, rfl⟩
        rw [← hV] at HB7
        have HA3 : Hid (Has V3 (W3.heap.size + 1) [.int .i64 ua.id, .int .i64 ua.y, .int .i64 ua.fr, .int .i64 ua.to, .int .i64 ua.sw] ∧ Has V3 (W3.heap.size) [.int .i64 ub.id, .int .i64 ub.y, .int .i64 ub.fr, .int .i64 ub.to, .int .i64 ub.sw]) := by rw [hV]; exact Lib.hid ⟨has_otherN HA2.out.1 (by omega) 0 [.int .i64 ub.id, .int .i64 ub.y, .int .i64 ub.fr, .int .i64 ub.to, .int .i64 ub.sw], has_lineN HA2.out.2 ub⟩
        have HE := Lib.hid hV
        clear hV HA2
        have HY := Lib.hid (bthen HX9.out HB7.out HX9.out.size)
        refine wpAnyN_end rfl (by kernel_rfl) rfl ?_
        simp only [List.drop_succ_cons, List.drop_zero]
        go_upto_region 8 with fail
        rw [show (((((V2.setCell ⟨W3.heap.size, 0, none⟩ (.int .i64 ub.id)).setCell ⟨W3.heap.size, 1, none⟩ (.int .i64 ub.y)).setCell ⟨W3.heap.size, 2, none⟩ (.int .i64 ub.fr)).setCell ⟨W3.heap.size, 3, none⟩ (.int .i64 ub.to)).setCell ⟨W3.heap.size, 4, none⟩ (.int .i64 ub.sw)) = V3 from HE.out.symm]
        clear e0 e1 e2 e3 e4 f0 f1 f2 f3 f4 HE
        obtain ⟨a0, a1, a2, a3, a4⟩ := five_at HA3.out.1
        obtain ⟨b0, b1, b2', b3, b4⟩ := five_at HA3.out.2
        rcases Nat.mod_two_eq_zero_or_one (k + 1) with hev | hev
        · have hrem : ((((k + 1 : Nat) : Int)).tmod 2 == 0) = true := beq_iff_eq.2 (by rw [Int.tmod_eq_emod_of_nonneg (by omega)]; omega)
          have hrem2 : (((k : Int) + 1).tmod 2 == 0) = true := beq_iff_eq.2 (by rw [Int.tmod_eq_emod_of_nonneg (by omega)]; omega)
          obtain ⟨R, hR⟩ : ∃ R, max (ua.fr - ub.fr) (-(ua.fr - ub.fr)) = R := ⟨_, rfl⟩
          have hRb : 0 ≤ R ∧ R ≤ 1000 := by omega
          have HMR := Lib.hid hR
          clear hR
          go_wp2_with fail
          have HXX : Hid (x + ub.y - ua.y + R = tuK (ordS L) (k + 1)) := by
            unfold Hid
            rw [HTN.out, ← hT.out, show ((k + 1) % 2 == 0) = true by simp; omega]
            unfold tuB
            simp only [if_true, if_false, Bool.false_eq_true]
            rw [HMR.out]
            omega
          have hbn := HBN.out
          rw [← HXX.out] at hbn
          have lc0 := lcell (a0)
          have lc1 := lcell (a1)
          have lc2 := lcell (a2)
          have lc3 := lcell (a3)
          have lc4 := lcell (a4)
          have lc5 := lcell (b0)
          have lc6 := lcell (b1)
          have lc7 := lcell (b2')
          have lc8 := lcell (b3)
          have lc9 := lcell (b4)
          refine region_later (W := V3) (by kernel_rfl) (by kernel_rfl) (Below.refl _ _) ?_
          repeat (go_big_quiet_step (((go_at_call 97; with_reducible exact later_same (most_v _ _ R HMR.out _)))))
          refine wpQuiet_nil ?_
          intro V4 hW1
          have HL : Hid (Below V3.heap.size V3 V4) := by obtain ⟨x, rfl⟩ := hW1; exact Lib.hid x.below
          clear hW1 lc0 lc1 lc2 lc3 lc4 lc5 lc6 lc7 lc8 lc9
          have HB4 := Lib.hid (bthen hB.out (bthen HB7.out HL.out HB7.out.size) hB.out.size)
          clear a0 a1 a2 a3 a4 b0 b1 b2' b3 b4
          go_wp2_with fail
          go_roundw
          case rel => first | exact ⟨k + 1, x + ub.y - ua.y + R, .inl (by omega), hbn.1, hbn.2, by go_num, by first | rfl | go_num, HXX, HB4⟩ | ((repeat apply Exists.intro); exact ⟨⟨k + 1, x + ub.y - ua.y + R, .inl (by omega), hbn.1, hbn.2, by go_num, by first | rfl | go_num, HXX, HB4⟩, rfl⟩)
          case measure => simp [intOf]; omega
        · have hrem : ((((k + 1 : Nat) : Int)).tmod 2 == 0) = false := beq_eq_false_iff_ne.2 (by rw [Int.tmod_eq_emod_of_nonneg (by omega)]; omega)
          have hrem2 : (((k : Int) + 1).tmod 2 == 0) = false := beq_eq_false_iff_ne.2 (by rw [Int.tmod_eq_emod_of_nonneg (by omega)]; omega)
          obtain ⟨R, hR⟩ : ∃ R, max (ua.to - ub.to) (-(ua.to - ub.to)) = R := ⟨_, rfl⟩
          have hRb : 0 ≤ R ∧ R ≤ 1000 := by omega
          have HMR := Lib.hid hR
          clear hR
          go_wp2_with fail
          have HXX : Hid (x + ub.y - ua.y + R = tuK (ordS L) (k + 1)) := by
            unfold Hid
            rw [HTN.out, ← hT.out, show ((k + 1) % 2 == 0) = false by simp; omega]
            unfold tuB
            simp only [if_true, if_false, Bool.false_eq_true]
            rw [HMR.out]
            omega
          have hbn := HBN.out
          rw [← HXX.out] at hbn
          have lc0 := lcell (a0)
          have lc1 := lcell (a1)
          have lc2 := lcell (a2)
          have lc3 := lcell (a3)
          have lc4 := lcell (a4)
          have lc5 := lcell (b0)
          have lc6 := lcell (b1)
          have lc7 := lcell (b2')
          have lc8 := lcell (b3)
          have lc9 := lcell (b4)
          refine region_later (W := V3) (by kernel_rfl) (by kernel_rfl) (Below.refl _ _) ?_
          repeat (go_big_quiet_step (((go_at_call 97; with_reducible exact later_same (most_v _ _ R HMR.out _)))))
          refine wpQuiet_nil ?_
          intro V4 hW1
          have HL : Hid (Below V3.heap.size V3 V4) := by obtain ⟨x, rfl⟩ := hW1; exact Lib.hid x.below
          clear hW1 lc0 lc1 lc2 lc3 lc4 lc5 lc6 lc7 lc8 lc9
          have HB4 := Lib.hid (bthen hB.out (bthen HB7.out HL.out HB7.out.size) hB.out.size)
          clear a0 a1 a2 a3 a4 b0 b1 b2' b3 b4
          go_wp2_with fail
          go_roundw
          case rel => first | exact ⟨k + 1, x + ub.y - ua.y + R, .inl (by omega), hbn.1, hbn.2, by go_num, by first | rfl | go_num, HXX, HB4⟩ | ((repeat apply Exists.intro); exact ⟨⟨k + 1, x + ub.y - ua.y + R, .inl (by omega), hbn.1, hbn.2, by go_num, by first | rfl | go_num, HXX, HB4⟩, rfl⟩)
          case measure => simp [intOf]; omega
    · have hk1 : k = L.length - 1 := by omega
      have HF : Hid (x = tuR L) := Lib.hid (hT.out.trans (by rw [hk1]; exact HR.out))
      clear hk1
      go_wp2_with fail
      go_ret2
      exact num_post HF.out rfl (bthen HX2.out hB.out HX2.out.size)
end Go.Proofs.Ytdmnkmdlochogab
