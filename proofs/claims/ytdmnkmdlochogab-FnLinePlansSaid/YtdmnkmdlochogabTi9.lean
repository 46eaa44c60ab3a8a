/-
  Turns: contract of impl.TurnsOf over this translation. Conditions: stated at each theorem.
-/
import Derived.Test.YtdmnkmdlochogabSw9
import Derived.Test.YtdmnkmdlochogabLd
import Derived.Test.YtdmnkmdlochogabTu9
namespace Go.Proofs.Ytdmnkmdlochogab
open Go.RowKit
set_option linter.unusedVariables false
set_option linter.unusedSimpArgs false

theorem has_pair9 {w : World} {g : Nat} {x0 x1 : Value} (h : Has w g [x0, x1]) (a b : Value) : Has (setL w g 0 [a, b]) g [a, b] := (h.set 0 a).set 1 b
set_option maxRecDepth 20000 in
set_option maxHeartbeats 12800000 in
theorem turns_impl (A : Option Addr) (n c0 : Nat) (L : List LN) (w : World) (hs : SdsN w w.heap.size A n L) (hm : n ≤ maxLen) :
    Calls Try.prog 24 #[.slice A n c0] w (NumPost (tuR L) (lnsB L) w) := by
  obtain rfl := hs.1
  have HS := Lib.hid hs
  clear hs
  rcases h1 : lnsB L with _ | _
  · have H1 := Lib.hid h1
    have HR : Hid ((0 : Int) = tuR L) := by unfold Hid tuR; rw [h1]; rfl
    clear h1
    go_enter Try.func24, Try.ntmps24
    go_wp2_with fail
    refine (lns_impl_v A L.length c0 L _ H1.out _ HS.out hm).mono ?_
    rintro e w1 ⟨rfl, hb⟩
    have HX := Lib.hid hb
    clear hb
    go_wp2_with fail
    go_ret2
    exact num_post HR.out rfl HX.out
  have H1 := Lib.hid h1
  have HG := Lib.hid (good9_of h1)
  have h8 := HG.out.max
  have HR : Hid (tuK (ordS L) (L.length - 1) = tuR L) := by unfold Hid tuR; rw [h1]; rfl
  clear h1
  go_enter Try.func24, Try.ntmps24
  go_wp2_with fail
  refine (lns_impl_v A L.length c0 L _ H1.out _ HS.out hm).mono ?_
  rintro e w1 ⟨rfl, hb⟩
  obtain ⟨g5, hg5⟩ : ∃ g5, g5 = w1.heap.size := ⟨_, rfl⟩
  obtain ⟨Wa, hWa⟩ : ∃ W, W = w1.alloc (.cells #[.int .i64 0, .int .i64 0] 61) := ⟨_, rfl⟩
  have HWa : Hid (Below w1.heap.size w1 Wa ∧ Has Wa w1.heap.size [.int .i64 0, .int .i64 0]) := by rw [hWa]; exact box1 (Below.refl _ _)
  have HZ : Hid (w1.heap.size < Wa.heap.size) := by rw [hWa]; exact Lib.hid (by simp)
  have HX := Lib.hid (bthen hb HWa.out.1 hb.size)
  have HLW : Hid (w.heap.size ≤ g5) := Lib.hid (by rw [hg5]; exact hb.size)
  have HE := Lib.hid hWa
  clear hWa hb
  go_wp2_with fail
  rw [← HE.out]
  refine (sailed_impl A L.length c0 L HG.out _ (sds_atN HS.out HX.out)).mono ?_
  rintro e W2 ⟨A2, c2, rfl, ho, hb⟩
  have HO := Lib.hid ho.sds
  have HLO : Hid (0 < L.length → ∀ g o, A2 = some ⟨g, o, none⟩ → some g ≠ some g5) := Lib.hid fun h0 g o e e2 => by
    obtain ⟨_, h | ⟨g', e', _, hF⟩⟩ := ho
    · omega
    · rw [e] at e'; injection e' with e'; injection e' with e1 _ _; have := hF.low; have := HZ.out; have e3 : g = g5 := Option.some.inj e2; omega
  have HX2 := Lib.hid (bthen HX.out hb HX.out.size)
  have HL0 : Hid (Has W2 g5 [.int .i64 0, .int .i64 0]) := by rw [hg5]; exact Lib.hid (HWa.out.2.next hb)
  rw [← hg5]
  clear ho hb hg5 HWa HZ HE
  go_wp2_with fail
  go_loopw [4, 17] (fun s z wr => ∃ (k : Nat) (x lx ly : Int), k ≤ L.length ∧ -14000 ≤ x ∧ x ≤ 14000 ∧ (0 ≤ lx ∧ lx ≤ 1000) ∧ (0 ≤ ly ∧ ly ≤ 1000) ∧ z = .int .i64 k ∧ s = .int .i64 x ∧ Hid (x = tuK (ordS L) (k - 1)) ∧ Hid (0 < k → lx = (if (k - 1) % 2 = 0 then (lnAt (ordS L) (k - 1)).to else (lnAt (ordS L) (k - 1)).fr) ∧ ly = (lnAt (ordS L) (k - 1)).y) ∧ Hid (Has wr g5 [.int .i64 lx, .int .i64 ly]) ∧ Hid (W2.grownBy wr (some g5)) ∧ Hid (Below w.heap.size w wr)) (fun _ z _ => L.length - (intOf z).toNat)
  case atStart => exact ⟨0, 0, 0, 0, Nat.zero_le _, by decide, by decide, by decide, by decide, rfl, rfl, Lib.hid rfl, Lib.hid (fun h => absurd h (by omega)), HL0, Lib.hid (World.grownBy.refl _ _), HX2⟩
  case round =>
    obtain ⟨k, x, lx, ly, hk, hx0, hx1, hlx, hly, rfl, rfl, hT, hLY, hL5, hG, hB⟩ := hrel
    obtain ⟨hlx0, hlx1⟩ := hlx
    obtain ⟨hly0, hly1⟩ := hly
    obtain ⟨wr9, hwq⟩ : ∃ wq : World, wq = wr := ⟨_, rfl⟩
    rw [← hwq] at hL5 hG hB ⊢
    clear hwq
    by_cases hlt : k < L.length
    · obtain ⟨b1, o1, u, rfl, hbl, hL, c0', c1, c2', c3, c4⟩ := (HO.out.grownN hG.out (HLO.out (by omega))).2 k hlt
      have HLA := Lib.hid (lnAt_at hL)
      have HLE := Lib.hid hL
      obtain ⟨q1, q2, q3, q4, q5, q6⟩ := lnB_parts (ord_mem HG.out hL)
      obtain ⟨wq, hwq⟩ : ∃ W, W = wr9.alloc (.cells #[.int .i64 u.id, .int .i64 u.y, .int .i64 u.fr, .int .i64 u.to, .int .i64 u.sw] 34) := ⟨_, rfl⟩
      have HW : Hid (Below wr9.heap.size wr9 wq ∧ Has wq wr9.heap.size [.int .i64 u.id, .int .i64 u.y, .int .i64 u.fr, .int .i64 u.to, .int .i64 u.sw]) := by rw [hwq]; exact box1 (Below.refl _ _)
      have hE9 := Lib.hid hwq
      clear hwq hL
      go_upto_region 7 with fail
      rw [← hE9.out]
      clear c0' c1 c2' c3 c4
      have hL5' := Lib.hid (hL5.out.next HW.out.1)
      have hG' := Lib.hid (grown_trans9 hG.out (grown_below9 (some g5) HW.out.1))
      have hB' := Lib.hid (bthen hB.out HW.out.1 hB.out.size)
      obtain ⟨a0, a1, a2, a3, a4⟩ := five_at HW.out.2
      clear hL5 hG hB
      have hL5 := hL5'
      have hG := hG'
      have hB := hB'
      clear hL5' hG' hB' HW
      have lc0 := lcell a0
      have lc1 := lcell a1
      have lc2 := lcell a2
      have lc3 := lcell a3
      have lc4 := lcell a4
      refine region_reads (W := wq) 13 4 [0, 1, 2, 3, 4, 5, 6, 7, 8, 9] (by kernel_rfl) (by kernel_rfl) rfl (Below.refl _ _) (fun d _ _ _ _ h => by cases d <;> exact h) ?_
      simp only [picks, List.getElem?_cons_succ, List.getElem?_cons_zero]
      repeat (go_big_quiet_step (fail))
      refine wpQuiet_nil ?_
      intro W3 hW1
      have HL0 : Hid (Below wq.heap.size wq W3) := by obtain ⟨x, rfl⟩ := hW1; exact Lib.hid x.below
      clear hW1 lc0 lc1 lc2 lc3 lc4 a0 a1 a2 a3 a4
      refine wpAnyN_two (i := 10) (i' := 11) (by kernel_rfl) ?_ ?_
      · refine wpOp_step rfl (fun K hK => ?_)
        rw [if_pos (by rfl)]
        have HB4 := Lib.hid (HL0.out.alloc HL0.out.size (.cells #[.int .i64 0, .int .i64 0] 61))
        go_simp
        refine hK _ _ ⟨⟨⟨_, HB4.out⟩, rfl⟩, ?_⟩
        clear hK K
        refine wpAnyN_one (i := 11) (by kernel_rfl) ?_
        refine wpOp_step rfl (fun K hK => ?_)
        rw [if_pos (by rfl)]
        have HB5 := Lib.hid (HB4.out.alloc HB4.out.size (.cells #[.int .i64 0, .int .i64 0] 61))
        have HV0 := Lib.hid (box2 (w := W3) (cs := #[.int .i64 0, .int .i64 0]) (ds := #[.int .i64 0, .int .i64 0]) (T := 61) (T' := 61) (Below.refl _ _))
        go_simp
        refine hK _ _ ⟨⟨⟨_, HB5.out⟩, rfl⟩, ?_⟩
        clear hK K
        obtain ⟨V, hV⟩ : ∃ V, V = (W3.alloc (.cells #[.int .i64 0, .int .i64 0] 61)).alloc (.cells #[.int .i64 0, .int .i64 0] 61) := ⟨_, rfl⟩
        rw [← hV]
        rw [← hV] at HB5 HV0
        clear hV HB4
        have HA : Hid (Has V (W3.heap.size) [.int .i64 0, .int .i64 0] ∧ Has V (W3.heap.size + 1) [.int .i64 0, .int .i64 0]) := Lib.hid ⟨HV0.out.2.1, HV0.out.2.2⟩
        have HGE : Hid (wq.heap.size ≤ W3.heap.size) := Lib.hid HL0.out.size
        have e0 := HA.out.1.at_ 0 _ rfl
        have e1 := HA.out.1.at_ 1 _ rfl
        have f0 := HA.out.1.free 0
        have f1 := HA.out.1.free 1
        have HB6 := Lib.hid (setL_below [.int .i64 u.fr, .int .i64 u.y] HB5.out (show wq.heap.size ≤ W3.heap.size by have := HGE.out; omega) 0)
        refine wpAnyN_one (i := 12) (by kernel_rfl) ?_
        refine wpOp_step rfl (fun K hK => ?_)
        rw [if_pos (by rfl)]
        go_simp
        refine hK _ _ ⟨⟨⟨_, HB6.out⟩, rfl⟩, ?_⟩
        clear hK K e0 e1 f0 f1
        obtain ⟨V2, hV⟩ : ∃ V2, V2 = setL V (W3.heap.size) 0 [.int .i64 u.fr, .int .i64 u.y] := ⟨_, rfl⟩
        rw [show ((V.setCell ⟨W3.heap.size, 0, none⟩ (.int .i64 u.fr)).setCell ⟨W3.heap.size, 1, none⟩ (.int .i64 u.y)) = V2 from hV.symm]
        rw [← hV] at HB6
        have HA2 : Hid (Has V2 (W3.heap.size) [.int .i64 u.fr, .int .i64 u.y] ∧ Has V2 (W3.heap.size + 1) [.int .i64 0, .int .i64 0]) := by rw [hV]; exact Lib.hid ⟨has_pair9 HA.out.1 _ _, has_otherN HA.out.2 (by omega) 0 _⟩
        clear hV HA
        have e0 := HA2.out.2.at_ 0 _ rfl
        have e1 := HA2.out.2.at_ 1 _ rfl
        have f0 := HA2.out.2.free 0
        have f1 := HA2.out.2.free 1
        have HB7 := Lib.hid (setL_below [.int .i64 u.to, .int .i64 u.y] HB6.out (show wq.heap.size ≤ W3.heap.size + 1 by have := HGE.out; omega) 0)
        obtain ⟨V3, hV⟩ : ∃ V3, V3 = setL V2 (W3.heap.size + 1) 0 [.int .i64 u.to, .int .i64 u.y] := ⟨_, rfl⟩
        rw [← hV] at HB7
        have HA3 : Hid (Has V3 (W3.heap.size) [.int .i64 u.fr, .int .i64 u.y] ∧ Has V3 (W3.heap.size + 1) [.int .i64 u.to, .int .i64 u.y]) := by rw [hV]; exact Lib.hid ⟨has_otherN HA2.out.1 (by omega) 0 _, has_pair9 HA2.out.2 _ _⟩
        have HE := Lib.hid hV
        clear hV HA2
        have HY := Lib.hid (bthen hB.out HB7.out hB.out.size)
        refine wpAnyN_end rfl (by kernel_rfl) rfl ?_
        simp only [List.drop_succ_cons, List.drop_zero]
        go_upto_region 8 with fail
        rw [show ((V2.setCell ⟨W3.heap.size + 1, 0, none⟩ (.int .i64 u.to)).setCell ⟨W3.heap.size + 1, 1, none⟩ (.int .i64 u.y)) = V3 from HE.out.symm]
        clear e0 e1 f0 f1 HE
        rcases k with _ | k
        · have hrem : ((0 : Int).tmod 2 == 1) = false := by decide
          have hrem2 : ((((0 : Nat) : Int)).tmod 2 == 1) = false := by decide
          have HBV := HB7
          have HG5 := Lib.hid (hL5.out.next HBV.out)
          have e0 := HA3.out.1.at_ 0 _ rfl
          have e1 := HA3.out.1.at_ 1 _ rfl
          have e2 := HA3.out.2.at_ 0 _ rfl
          have e3 := HA3.out.2.at_ 1 _ rfl
          have l0 := HG5.out.at_ 0 _ rfl
          have l1 := HG5.out.at_ 1 _ rfl
          have z0 := HG5.out.free 0
          have z1 := HG5.out.free 1
          have HL2 : Hid (Has ((V3.setCell ⟨g5, 0, none⟩ (.int .i64 u.to)).setCell ⟨g5, 1, none⟩ (.int .i64 u.y)) g5 [.int .i64 u.to, .int .i64 u.y]) := Lib.hid (has_pair9 HG5.out _ _)
          have HG2 : Hid (W2.grownBy ((V3.setCell ⟨g5, 0, none⟩ (.int .i64 u.to)).setCell ⟨g5, 1, none⟩ (.int .i64 u.y)) (some g5)) := Lib.hid (grown_trans9 (grown_trans9 (grown_trans9 hG.out (grown_below9 _ HBV.out)) (grown_set _ _ _)) (grown_set _ _ _))
          have HB2 : Hid (Below w.heap.size w ((V3.setCell ⟨g5, 0, none⟩ (.int .i64 u.to)).setCell ⟨g5, 1, none⟩ (.int .i64 u.y))) := Lib.hid (((bthen hB.out HBV.out hB.out.size).setCell (p := ⟨g5, 0, none⟩) HLW.out _).setCell (p := ⟨g5, 1, none⟩) HLW.out _)
          have HLY : Hid (0 < 0 + 1 → u.to = (if (0 + 1 - 1) % 2 = 0 then (lnAt (ordS L) (0 + 1 - 1)).to else (lnAt (ordS L) (0 + 1 - 1)).fr) ∧ u.y = (lnAt (ordS L) (0 + 1 - 1)).y) := Lib.hid fun _ => by rw [HLA.out]; exact ⟨rfl, rfl⟩
          have HXB : Hid (-14000 ≤ x ∧ x ≤ 14000) := Lib.hid ⟨hx0, hx1⟩
          have HXX : Hid (x = tuK (ordS L) (0 + 1 - 1)) := hT
          go_wp2_with fail
          go_roundw
          case rel => first | exact ⟨0 + 1, x, u.to, u.y, by omega, HXB.out.1, HXB.out.2, q4, q2, by first | rfl | go_num, by first | rfl | go_num, HXX, HLY, HL2, HG2, HB2⟩ | ((repeat apply Exists.intro); exact ⟨⟨0 + 1, x, u.to, u.y, by omega, HXB.out.1, HXB.out.2, q4, q2, by first | rfl | go_num, by first | rfl | go_num, HXX, HLY, HL2, HG2, HB2⟩, rfl⟩)
          case measure => simp [intOf]; omega
        · obtain ⟨a, ha⟩ : ∃ a, (ordS L)[k]? = some a := ⟨_, List.getElem?_eq_getElem (by rw [ordS_len]; omega)⟩
          have HTP : Hid (x = tuK (ordS L) k) := hT
          have HTN : Hid (tuK (ordS L) (k + 1) = tuK (ordS L) k + tuB a u ((k + 1) % 2 == 0)) := by unfold Hid; rw [tuK, lnAt_at ha, HLA.out]
          have HBN := Lib.hid (tuN_bd HG.out (k := k + 1) (by omega))
          have hpp := hLY.out (Nat.succ_pos k)
          rw [Nat.add_sub_cancel, lnAt_at ha] at hpp
          have HPY : Hid (ly = a.y) := Lib.hid hpp.2
          have hle : ly ≤ u.y := by rw [hpp.2]; exact ord_le HG.out ha HLE.out
          rcases Nat.mod_two_eq_zero_or_one (k + 1) with hev | hev
          · have HPX : Hid (lx = a.fr) := Lib.hid (by rw [hpp.1, if_neg (by omega)])
            have hrem : ((((k + 1 : Nat) : Int)).tmod 2 == 1) = false := beq_eq_false_iff_ne.2 (by rw [Int.tmod_eq_emod_of_nonneg (by omega)]; omega)
            have hrem2 : (((k : Int) + 1).tmod 2 == 1) = false := beq_eq_false_iff_ne.2 (by rw [Int.tmod_eq_emod_of_nonneg (by omega)]; omega)
            clear hpp ha
            have HGP := Lib.hid (hL5.out.next HB7.out)
            have e0 := HA3.out.1.at_ 0 _ rfl
            have e1 := HA3.out.1.at_ 1 _ rfl
            have l0 := HGP.out.at_ 0 _ rfl
            have l1 := HGP.out.at_ 1 _ rfl
            obtain ⟨t, ht⟩ : ∃ t, max (u.fr - lx) (-(u.fr - lx)) = t := ⟨_, rfl⟩
            have htb : 0 ≤ t ∧ t ≤ 1000 := by omega
            obtain ⟨htb1, htb2⟩ := htb
            have HT9 := Lib.hid ht
            have HT8 : Hid (max (u.y - ly) (-(u.y - ly)) = u.y - ly) := by unfold Hid; omega
            have HXX : Hid (x + (t + (u.y - ly)) = tuK (ordS L) (k + 1 + 1 - 1)) := by
              unfold Hid
              rw [Nat.add_sub_cancel, HTN.out, ← HTP.out, show ((k + 1) % 2 == 0) = true by simp; omega]
              unfold tuB
              simp only [if_true, if_false, Bool.false_eq_true]
              rw [← HPX.out, ← HPY.out]
              omega
            have HXB : Hid (-14000 ≤ x + (t + (u.y - ly)) ∧ x + (t + (u.y - ly)) ≤ 14000) := by have h := HBN.out; rw [Nat.add_sub_cancel] at HXX; rw [← HXX.out] at h; exact Lib.hid h
            have hxb := HXB.out
            clear ht
            go_wp2_with fail
            have lc0 := lcell (e0)
            have lc1 := lcell (e1)
            have lc2 := lcell (l0)
            have lc3 := lcell (l1)
            refine region_later (W := V3) (by kernel_rfl) (by kernel_rfl) (Below.refl _ _) ?_
            repeat (go_big_quiet_step (((first | (go_at_call 96; with_reducible exact later_same (ws_v _ t HT9.out _ (by omega) (by omega))) | (go_at_call 96; with_reducible exact later_same (ws_v _ _ HT8.out _ (by omega) (by omega)))))))
            refine wpQuiet_nil ?_
            intro W5 hW1
            have HL : Hid (Below V3.heap.size V3 W5) := by obtain ⟨x, rfl⟩ := hW1; exact Lib.hid x.below
            clear hW1 lc0 lc1 lc2 lc3
            have HBV := Lib.hid (bthen HB7.out HL.out HB7.out.size)
            have HA5 := Lib.hid (And.intro (HA3.out.1.next HL.out) (HA3.out.2.next HL.out))
            have HG5 := Lib.hid (HGP.out.next HL.out)
            clear e0 e1 l0 l1
            have e2 := HA5.out.2.at_ 0 _ rfl
            have e3 := HA5.out.2.at_ 1 _ rfl
            have l0 := HG5.out.at_ 0 _ rfl
            have l1 := HG5.out.at_ 1 _ rfl
            have z0 := HG5.out.free 0
            have z1 := HG5.out.free 1
            have HL2 : Hid (Has ((W5.setCell ⟨g5, 0, none⟩ (.int .i64 u.to)).setCell ⟨g5, 1, none⟩ (.int .i64 u.y)) g5 [.int .i64 u.to, .int .i64 u.y]) := Lib.hid (has_pair9 HG5.out _ _)
            have HG2 : Hid (W2.grownBy ((W5.setCell ⟨g5, 0, none⟩ (.int .i64 u.to)).setCell ⟨g5, 1, none⟩ (.int .i64 u.y)) (some g5)) := Lib.hid (grown_trans9 (grown_trans9 (grown_trans9 hG.out (grown_below9 _ HBV.out)) (grown_set _ _ _)) (grown_set _ _ _))
            have HB2 : Hid (Below w.heap.size w ((W5.setCell ⟨g5, 0, none⟩ (.int .i64 u.to)).setCell ⟨g5, 1, none⟩ (.int .i64 u.y))) := Lib.hid (((bthen hB.out HBV.out hB.out.size).setCell (p := ⟨g5, 0, none⟩) HLW.out _).setCell (p := ⟨g5, 1, none⟩) HLW.out _)
            have HLY : Hid (0 < k + 1 + 1 → u.to = (if (k + 1 + 1 - 1) % 2 = 0 then (lnAt (ordS L) (k + 1 + 1 - 1)).to else (lnAt (ordS L) (k + 1 + 1 - 1)).fr) ∧ u.y = (lnAt (ordS L) (k + 1 + 1 - 1)).y) := Lib.hid fun _ => by rw [Nat.add_sub_cancel, HLA.out]; rw [if_pos (by omega)]; exact ⟨rfl, rfl⟩
            go_wp2_with fail
            go_roundw
            case rel => first | exact ⟨k + 1 + 1, x + (t + (u.y - ly)), u.to, u.y, by omega, HXB.out.1, HXB.out.2, q4, q2, by first | rfl | go_num, by first | rfl | go_num, HXX, HLY, HL2, HG2, HB2⟩ | ((repeat apply Exists.intro); exact ⟨⟨k + 1 + 1, x + (t + (u.y - ly)), u.to, u.y, by omega, HXB.out.1, HXB.out.2, q4, q2, by first | rfl | go_num, by first | rfl | go_num, HXX, HLY, HL2, HG2, HB2⟩, rfl⟩)
            case measure => simp [intOf]; omega
          · have HPX : Hid (lx = a.to) := Lib.hid (by rw [hpp.1, if_pos (by omega)])
            have hrem : ((((k + 1 : Nat) : Int)).tmod 2 == 1) = true := beq_iff_eq.2 (by rw [Int.tmod_eq_emod_of_nonneg (by omega)]; omega)
            have hrem2 : (((k : Int) + 1).tmod 2 == 1) = true := beq_iff_eq.2 (by rw [Int.tmod_eq_emod_of_nonneg (by omega)]; omega)
            clear hpp ha
            have e0 := HA3.out.1.at_ 0 _ rfl
            have e1 := HA3.out.1.at_ 1 _ rfl
            have e2 := HA3.out.2.at_ 0 _ rfl
            have e3 := HA3.out.2.at_ 1 _ rfl
            have f0 := HA3.out.1.free 0
            have f1 := HA3.out.1.free 1
            have f2 := HA3.out.2.free 0
            have f3 := HA3.out.2.free 1
            have HB8 := Lib.hid (setL_below [.int .i64 u.fr, .int .i64 u.y] (setL_below [.int .i64 u.to, .int .i64 u.y] HB7.out (show wq.heap.size ≤ W3.heap.size by have := HGE.out; omega) 0) (show wq.heap.size ≤ W3.heap.size + 1 by have := HGE.out; omega) 0)
            obtain ⟨V4, hV⟩ : ∃ V4, V4 = setL (setL V3 (W3.heap.size) 0 [.int .i64 u.to, .int .i64 u.y]) (W3.heap.size + 1) 0 [.int .i64 u.fr, .int .i64 u.y] := ⟨_, rfl⟩
            rw [← hV] at HB8
            have HA4 : Hid (Has V4 (W3.heap.size) [.int .i64 u.to, .int .i64 u.y] ∧ Has V4 (W3.heap.size + 1) [.int .i64 u.fr, .int .i64 u.y]) := by rw [hV]; exact Lib.hid ⟨has_otherN (has_pair9 HA3.out.1 _ _) (by omega) 0 _, has_pair9 (has_otherN HA3.out.2 (by omega) 0 _) _ _⟩
            have HE := Lib.hid hV
            clear hV
            go_upto_region 10 with fail
            rw [show ((((V3.setCell ⟨W3.heap.size, 0, none⟩ (.int .i64 u.to)).setCell ⟨W3.heap.size, 1, none⟩ (.int .i64 u.y)).setCell ⟨W3.heap.size + 1, 0, none⟩ (.int .i64 u.fr)).setCell ⟨W3.heap.size + 1, 1, none⟩ (.int .i64 u.y)) = V4 from HE.out.symm]
            clear e0 e1 e2 e3 f0 f1 f2 f3 HE
            have HGP := Lib.hid (hL5.out.next HB8.out)
            have e0 := HA4.out.1.at_ 0 _ rfl
            have e1 := HA4.out.1.at_ 1 _ rfl
            have l0 := HGP.out.at_ 0 _ rfl
            have l1 := HGP.out.at_ 1 _ rfl
            obtain ⟨t, ht⟩ : ∃ t, max (u.to - lx) (-(u.to - lx)) = t := ⟨_, rfl⟩
            have htb : 0 ≤ t ∧ t ≤ 1000 := by omega
            obtain ⟨htb1, htb2⟩ := htb
            have HT9 := Lib.hid ht
            have HT8 : Hid (max (u.y - ly) (-(u.y - ly)) = u.y - ly) := by unfold Hid; omega
            have HXX : Hid (x + (t + (u.y - ly)) = tuK (ordS L) (k + 1 + 1 - 1)) := by
              unfold Hid
              rw [Nat.add_sub_cancel, HTN.out, ← HTP.out, show ((k + 1) % 2 == 0) = false by simp; omega]
              unfold tuB
              simp only [if_true, if_false, Bool.false_eq_true]
              rw [← HPX.out, ← HPY.out]
              omega
            have HXB : Hid (-14000 ≤ x + (t + (u.y - ly)) ∧ x + (t + (u.y - ly)) ≤ 14000) := by have h := HBN.out; rw [Nat.add_sub_cancel] at HXX; rw [← HXX.out] at h; exact Lib.hid h
            have hxb := HXB.out
            clear ht
            go_wp2_with fail
            have lc0 := lcell (e0)
            have lc1 := lcell (e1)
            have lc2 := lcell (l0)
            have lc3 := lcell (l1)
            refine region_later (W := V4) (by kernel_rfl) (by kernel_rfl) (Below.refl _ _) ?_
            repeat (go_big_quiet_step (((first | (go_at_call 96; with_reducible exact later_same (ws_v _ t HT9.out _ (by omega) (by omega))) | (go_at_call 96; with_reducible exact later_same (ws_v _ _ HT8.out _ (by omega) (by omega)))))))
            refine wpQuiet_nil ?_
            intro W5 hW1
            have HL : Hid (Below V4.heap.size V4 W5) := by obtain ⟨x, rfl⟩ := hW1; exact Lib.hid x.below
            clear hW1 lc0 lc1 lc2 lc3
            have HBV := Lib.hid (bthen HB8.out HL.out HB8.out.size)
            have HA5 := Lib.hid (And.intro (HA4.out.1.next HL.out) (HA4.out.2.next HL.out))
            have HG5 := Lib.hid (HGP.out.next HL.out)
            clear e0 e1 l0 l1
            have e2 := HA5.out.2.at_ 0 _ rfl
            have e3 := HA5.out.2.at_ 1 _ rfl
            have l0 := HG5.out.at_ 0 _ rfl
            have l1 := HG5.out.at_ 1 _ rfl
            have z0 := HG5.out.free 0
            have z1 := HG5.out.free 1
            have HL2 : Hid (Has ((W5.setCell ⟨g5, 0, none⟩ (.int .i64 u.fr)).setCell ⟨g5, 1, none⟩ (.int .i64 u.y)) g5 [.int .i64 u.fr, .int .i64 u.y]) := Lib.hid (has_pair9 HG5.out _ _)
            have HG2 : Hid (W2.grownBy ((W5.setCell ⟨g5, 0, none⟩ (.int .i64 u.fr)).setCell ⟨g5, 1, none⟩ (.int .i64 u.y)) (some g5)) := Lib.hid (grown_trans9 (grown_trans9 (grown_trans9 hG.out (grown_below9 _ HBV.out)) (grown_set _ _ _)) (grown_set _ _ _))
            have HB2 : Hid (Below w.heap.size w ((W5.setCell ⟨g5, 0, none⟩ (.int .i64 u.fr)).setCell ⟨g5, 1, none⟩ (.int .i64 u.y))) := Lib.hid (((bthen hB.out HBV.out hB.out.size).setCell (p := ⟨g5, 0, none⟩) HLW.out _).setCell (p := ⟨g5, 1, none⟩) HLW.out _)
            have HLY : Hid (0 < k + 1 + 1 → u.fr = (if (k + 1 + 1 - 1) % 2 = 0 then (lnAt (ordS L) (k + 1 + 1 - 1)).to else (lnAt (ordS L) (k + 1 + 1 - 1)).fr) ∧ u.y = (lnAt (ordS L) (k + 1 + 1 - 1)).y) := Lib.hid fun _ => by rw [Nat.add_sub_cancel, HLA.out]; rw [if_neg (by omega)]; exact ⟨rfl, rfl⟩
            go_wp2_with fail
            go_roundw
            case rel => first | exact ⟨k + 1 + 1, x + (t + (u.y - ly)), u.fr, u.y, by omega, HXB.out.1, HXB.out.2, q3, q2, by first | rfl | go_num, by first | rfl | go_num, HXX, HLY, HL2, HG2, HB2⟩ | ((repeat apply Exists.intro); exact ⟨⟨k + 1 + 1, x + (t + (u.y - ly)), u.fr, u.y, by omega, HXB.out.1, HXB.out.2, q3, q2, by first | rfl | go_num, by first | rfl | go_num, HXX, HLY, HL2, HG2, HB2⟩, rfl⟩)
            case measure => simp [intOf]; omega
      · refine wpOp_step rfl (fun K hK => ?_)
        rw [if_pos (by rfl)]
        have HB4 := Lib.hid (HL0.out.alloc HL0.out.size (.cells #[.int .i64 0, .int .i64 0] 61))
        go_simp
        refine hK _ _ ⟨⟨⟨_, HB4.out⟩, rfl⟩, ?_⟩
        clear hK K
        refine wpAnyN_one (i := 10) (by kernel_rfl) ?_
        refine wpOp_step rfl (fun K hK => ?_)
        rw [if_pos (by rfl)]
        have HB5 := Lib.hid (HB4.out.alloc HB4.out.size (.cells #[.int .i64 0, .int .i64 0] 61))
        have HV0 := Lib.hid (box2 (w := W3) (cs := #[.int .i64 0, .int .i64 0]) (ds := #[.int .i64 0, .int .i64 0]) (T := 61) (T' := 61) (Below.refl _ _))
        go_simp
        refine hK _ _ ⟨⟨⟨_, HB5.out⟩, rfl⟩, ?_⟩
        clear hK K
        obtain ⟨V, hV⟩ : ∃ V, V = (W3.alloc (.cells #[.int .i64 0, .int .i64 0] 61)).alloc (.cells #[.int .i64 0, .int .i64 0] 61) := ⟨_, rfl⟩
        rw [← hV]
        rw [← hV] at HB5 HV0
        clear hV HB4
        have HA : Hid (Has V (W3.heap.size + 1) [.int .i64 0, .int .i64 0] ∧ Has V (W3.heap.size) [.int .i64 0, .int .i64 0]) := Lib.hid ⟨HV0.out.2.2, HV0.out.2.1⟩
        have HGE : Hid (wq.heap.size ≤ W3.heap.size) := Lib.hid HL0.out.size
        have e0 := HA.out.1.at_ 0 _ rfl
        have e1 := HA.out.1.at_ 1 _ rfl
        have f0 := HA.out.1.free 0
        have f1 := HA.out.1.free 1
        have HB6 := Lib.hid (setL_below [.int .i64 u.fr, .int .i64 u.y] HB5.out (show wq.heap.size ≤ W3.heap.size + 1 by have := HGE.out; omega) 0)
        refine wpAnyN_one (i := 12) (by kernel_rfl) ?_
        refine wpOp_step rfl (fun K hK => ?_)
        rw [if_pos (by rfl)]
        go_simp
        refine hK _ _ ⟨⟨⟨_, HB6.out⟩, rfl⟩, ?_⟩
        clear hK K e0 e1 f0 f1
        obtain ⟨V2, hV⟩ : ∃ V2, V2 = setL V (W3.heap.size + 1) 0 [.int .i64 u.fr, .int .i64 u.y] := ⟨_, rfl⟩
        rw [show ((V.setCell ⟨W3.heap.size + 1, 0, none⟩ (.int .i64 u.fr)).setCell ⟨W3.heap.size + 1, 1, none⟩ (.int .i64 u.y)) = V2 from hV.symm]
        rw [← hV] at HB6
        have HA2 : Hid (Has V2 (W3.heap.size + 1) [.int .i64 u.fr, .int .i64 u.y] ∧ Has V2 (W3.heap.size) [.int .i64 0, .int .i64 0]) := by rw [hV]; exact Lib.hid ⟨has_pair9 HA.out.1 _ _, has_otherN HA.out.2 (by omega) 0 _⟩
        clear hV HA
        have e0 := HA2.out.2.at_ 0 _ rfl
        have e1 := HA2.out.2.at_ 1 _ rfl
        have f0 := HA2.out.2.free 0
        have f1 := HA2.out.2.free 1
        have HB7 := Lib.hid (setL_below [.int .i64 u.to, .int .i64 u.y] HB6.out (show wq.heap.size ≤ W3.heap.size by have := HGE.out; omega) 0)
        obtain ⟨V3, hV⟩ : ∃ V3, V3 = setL V2 (W3.heap.size) 0 [.int .i64 u.to, .int .i64 u.y] := ⟨_, rfl⟩
        rw [← hV] at HB7
        have HA3 : Hid (Has V3 (W3.heap.size + 1) [.int .i64 u.fr, .int .i64 u.y] ∧ Has V3 (W3.heap.size) [.int .i64 u.to, .int .i64 u.y]) := by rw [hV]; exact Lib.hid ⟨has_otherN HA2.out.1 (by omega) 0 _, has_pair9 HA2.out.2 _ _⟩
        have HE := Lib.hid hV
        clear hV HA2
        have HY := Lib.hid (bthen hB.out HB7.out hB.out.size)
        refine wpAnyN_end rfl (by kernel_rfl) rfl ?_
        simp only [List.drop_succ_cons, List.drop_zero]
        go_upto_region 8 with fail
        rw [show ((V2.setCell ⟨W3.heap.size, 0, none⟩ (.int .i64 u.to)).setCell ⟨W3.heap.size, 1, none⟩ (.int .i64 u.y)) = V3 from HE.out.symm]
        clear e0 e1 f0 f1 HE
        rcases k with _ | k
        · have hrem : ((0 : Int).tmod 2 == 1) = false := by decide
          have hrem2 : ((((0 : Nat) : Int)).tmod 2 == 1) = false := by decide
          have HBV := HB7
          have HG5 := Lib.hid (hL5.out.next HBV.out)
          have e0 := HA3.out.1.at_ 0 _ rfl
          have e1 := HA3.out.1.at_ 1 _ rfl
          have e2 := HA3.out.2.at_ 0 _ rfl
          have e3 := HA3.out.2.at_ 1 _ rfl
          have l0 := HG5.out.at_ 0 _ rfl
          have l1 := HG5.out.at_ 1 _ rfl
          have z0 := HG5.out.free 0
          have z1 := HG5.out.free 1
          have HL2 : Hid (Has ((V3.setCell ⟨g5, 0, none⟩ (.int .i64 u.to)).setCell ⟨g5, 1, none⟩ (.int .i64 u.y)) g5 [.int .i64 u.to, .int .i64 u.y]) := Lib.hid (has_pair9 HG5.out _ _)
          have HG2 : Hid (W2.grownBy ((V3.setCell ⟨g5, 0, none⟩ (.int .i64 u.to)).setCell ⟨g5, 1, none⟩ (.int .i64 u.y)) (some g5)) := Lib.hid (grown_trans9 (grown_trans9 (grown_trans9 hG.out (grown_below9 _ HBV.out)) (grown_set _ _ _)) (grown_set _ _ _))
          have HB2 : Hid (Below w.heap.size w ((V3.setCell ⟨g5, 0, none⟩ (.int .i64 u.to)).setCell ⟨g5, 1, none⟩ (.int .i64 u.y))) := Lib.hid (((bthen hB.out HBV.out hB.out.size).setCell (p := ⟨g5, 0, none⟩) HLW.out _).setCell (p := ⟨g5, 1, none⟩) HLW.out _)
          have HLY : Hid (0 < 0 + 1 → u.to = (if (0 + 1 - 1) % 2 = 0 then (lnAt (ordS L) (0 + 1 - 1)).to else (lnAt (ordS L) (0 + 1 - 1)).fr) ∧ u.y = (lnAt (ordS L) (0 + 1 - 1)).y) := Lib.hid fun _ => by rw [HLA.out]; exact ⟨rfl, rfl⟩
          have HXB : Hid (-14000 ≤ x ∧ x ≤ 14000) := Lib.hid ⟨hx0, hx1⟩
          have HXX : Hid (x = tuK (ordS L) (0 + 1 - 1)) := hT
          go_wp2_with fail
          go_roundw
          case rel => first | exact ⟨0 + 1, x, u.to, u.y, by omega, HXB.out.1, HXB.out.2, q4, q2, by first | rfl | go_num, by first | rfl | go_num, HXX, HLY, HL2, HG2, HB2⟩ | ((repeat apply Exists.intro); exact ⟨⟨0 + 1, x, u.to, u.y, by omega, HXB.out.1, HXB.out.2, q4, q2, by first | rfl | go_num, by first | rfl | go_num, HXX, HLY, HL2, HG2, HB2⟩, rfl⟩)
          case measure => simp [intOf]; omega
        · obtain ⟨a, ha⟩ : ∃ a, (ordS L)[k]? = some a := ⟨_, List.getElem?_eq_getElem (by rw [ordS_len]; omega)⟩
          have HTP : Hid (x = tuK (ordS L) k) := hT
          have HTN : Hid (tuK (ordS L) (k + 1) = tuK (ordS L) k + tuB a u ((k + 1) % 2 == 0)) := by unfold Hid; rw [tuK, lnAt_at ha, HLA.out]
          have HBN := Lib.hid (tuN_bd HG.out (k := k + 1) (by omega))
          have hpp := hLY.out (Nat.succ_pos k)
          rw [Nat.add_sub_cancel, lnAt_at ha] at hpp
          have HPY : Hid (ly = a.y) := Lib.hid hpp.2
          have hle : ly ≤ u.y := by rw [hpp.2]; exact ord_le HG.out ha HLE.out
          rcases Nat.mod_two_eq_zero_or_one (k + 1) with hev | hev
          · have HPX : Hid (lx = a.fr) := Lib.hid (by rw [hpp.1, if_neg (by omega)])
            have hrem : ((((k + 1 : Nat) : Int)).tmod 2 == 1) = false := beq_eq_false_iff_ne.2 (by rw [Int.tmod_eq_emod_of_nonneg (by omega)]; omega)
            have hrem2 : (((k : Int) + 1).tmod 2 == 1) = false := beq_eq_false_iff_ne.2 (by rw [Int.tmod_eq_emod_of_nonneg (by omega)]; omega)
            clear hpp ha
            have HGP := Lib.hid (hL5.out.next HB7.out)
            have e0 := HA3.out.1.at_ 0 _ rfl
            have e1 := HA3.out.1.at_ 1 _ rfl
            have l0 := HGP.out.at_ 0 _ rfl
            have l1 := HGP.out.at_ 1 _ rfl
            obtain ⟨t, ht⟩ : ∃ t, max (u.fr - lx) (-(u.fr - lx)) = t := ⟨_, rfl⟩
            have htb : 0 ≤ t ∧ t ≤ 1000 := by omega
            obtain ⟨htb1, htb2⟩ := htb
            have HT9 := Lib.hid ht
            have HT8 : Hid (max (u.y - ly) (-(u.y - ly)) = u.y - ly) := by unfold Hid; omega
            have HXX : Hid (x + (t + (u.y - ly)) = tuK (ordS L) (k + 1 + 1 - 1)) := by
              unfold Hid
              rw [Nat.add_sub_cancel, HTN.out, ← HTP.out, show ((k + 1) % 2 == 0) = true by simp; omega]
              unfold tuB
              simp only [if_true, if_false, Bool.false_eq_true]
              rw [← HPX.out, ← HPY.out]
              omega
            have HXB : Hid (-14000 ≤ x + (t + (u.y - ly)) ∧ x + (t + (u.y - ly)) ≤ 14000) := by have h := HBN.out; rw [Nat.add_sub_cancel] at HXX; rw [← HXX.out] at h; exact Lib.hid h
            have hxb := HXB.out
            clear ht
            go_wp2_with fail
            have lc0 := lcell (e0)
            have lc1 := lcell (e1)
            have lc2 := lcell (l0)
            have lc3 := lcell (l1)
            refine region_later (W := V3) (by kernel_rfl) (by kernel_rfl) (Below.refl _ _) ?_
            repeat (go_big_quiet_step (((first | (go_at_call 96; with_reducible exact later_same (ws_v _ t HT9.out _ (by omega) (by omega))) | (go_at_call 96; with_reducible exact later_same (ws_v _ _ HT8.out _ (by omega) (by omega)))))))
            refine wpQuiet_nil ?_
            intro W5 hW1
            have HL : Hid (Below V3.heap.size V3 W5) := by obtain ⟨x, rfl⟩ := hW1; exact Lib.hid x.below
            clear hW1 lc0 lc1 lc2 lc3
            have HBV := Lib.hid (bthen HB7.out HL.out HB7.out.size)
            have HA5 := Lib.hid (And.intro (HA3.out.1.next HL.out) (HA3.out.2.next HL.out))
            have HG5 := Lib.hid (HGP.out.next HL.out)
            clear e0 e1 l0 l1
            have e2 := HA5.out.2.at_ 0 _ rfl
            have e3 := HA5.out.2.at_ 1 _ rfl
            have l0 := HG5.out.at_ 0 _ rfl
            have l1 := HG5.out.at_ 1 _ rfl
            have z0 := HG5.out.free 0
            have z1 := HG5.out.free 1
            have HL2 : Hid (Has ((W5.setCell ⟨g5, 0, none⟩ (.int .i64 u.to)).setCell ⟨g5, 1, none⟩ (.int .i64 u.y)) g5 [.int .i64 u.to, .int .i64 u.y]) := Lib.hid (has_pair9 HG5.out _ _)
            have HG2 : Hid (W2.grownBy ((W5.setCell ⟨g5, 0, none⟩ (.int .i64 u.to)).setCell ⟨g5, 1, none⟩ (.int .i64 u.y)) (some g5)) := Lib.hid (grown_trans9 (grown_trans9 (grown_trans9 hG.out (grown_below9 _ HBV.out)) (grown_set _ _ _)) (grown_set _ _ _))
            have HB2 : Hid (Below w.heap.size w ((W5.setCell ⟨g5, 0, none⟩ (.int .i64 u.to)).setCell ⟨g5, 1, none⟩ (.int .i64 u.y))) := Lib.hid (((bthen hB.out HBV.out hB.out.size).setCell (p := ⟨g5, 0, none⟩) HLW.out _).setCell (p := ⟨g5, 1, none⟩) HLW.out _)
            have HLY : Hid (0 < k + 1 + 1 → u.to = (if (k + 1 + 1 - 1) % 2 = 0 then (lnAt (ordS L) (k + 1 + 1 - 1)).to else (lnAt (ordS L) (k + 1 + 1 - 1)).fr) ∧ u.y = (lnAt (ordS L) (k + 1 + 1 - 1)).y) := Lib.hid fun _ => by rw [Nat.add_sub_cancel, HLA.out]; rw [if_pos (by omega)]; exact ⟨rfl, rfl⟩
            go_wp2_with fail
            go_roundw
            case rel => first | exact ⟨k + 1 + 1, x + (t + (u.y - ly)), u.to, u.y, by omega, HXB.out.1, HXB.out.2, q4, q2, by first | rfl | go_num, by first | rfl | go_num, HXX, HLY, HL2, HG2, HB2⟩ | ((repeat apply Exists.intro); exact ⟨⟨k + 1 + 1, x + (t + (u.y - ly)), u.to, u.y, by omega, HXB.out.1, HXB.out.2, q4, q2, by first | rfl | go_num, by first | rfl | go_num, HXX, HLY, HL2, HG2, HB2⟩, rfl⟩)
            case measure => simp [intOf]; omega
          · have HPX : Hid (lx = a.to) := Lib.hid (by rw [hpp.1, if_pos (by omega)])
            have hrem : ((((k + 1 : Nat) : Int)).tmod 2 == 1) = true := beq_iff_eq.2 (by rw [Int.tmod_eq_emod_of_nonneg (by omega)]; omega)
            have hrem2 : (((k : Int) + 1).tmod 2 == 1) = true := beq_iff_eq.2 (by rw [Int.tmod_eq_emod_of_nonneg (by omega)]; omega)
            clear hpp ha
            have e0 := HA3.out.1.at_ 0 _ rfl
            have e1 := HA3.out.1.at_ 1 _ rfl
            have e2 := HA3.out.2.at_ 0 _ rfl
            have e3 := HA3.out.2.at_ 1 _ rfl
            have f0 := HA3.out.1.free 0
            have f1 := HA3.out.1.free 1
            have f2 := HA3.out.2.free 0
            have f3 := HA3.out.2.free 1
            have HB8 := Lib.hid (setL_below [.int .i64 u.fr, .int .i64 u.y] (setL_below [.int .i64 u.to, .int .i64 u.y] HB7.out (show wq.heap.size ≤ W3.heap.size + 1 by have := HGE.out; omega) 0) (show wq.heap.size ≤ W3.heap.size by have := HGE.out; omega) 0)
            obtain ⟨V4, hV⟩ : ∃ V4, V4 = setL (setL V3 (W3.heap.size + 1) 0 [.int .i64 u.to, .int .i64 u.y]) (W3.heap.size) 0 [.int .i64 u.fr, .int .i64 u.y] := ⟨_, rfl⟩
            rw [← hV] at HB8
            have HA4 : Hid (Has V4 (W3.heap.size + 1) [.int .i64 u.to, .int .i64 u.y] ∧ Has V4 (W3.heap.size) [.int .i64 u.fr, .int .i64 u.y]) := by rw [hV]; exact Lib.hid ⟨has_otherN (has_pair9 HA3.out.1 _ _) (by omega) 0 _, has_pair9 (has_otherN HA3.out.2 (by omega) 0 _) _ _⟩
            have HE := Lib.hid hV
            clear hV
            go_upto_region 10 with fail
            rw [show ((((V3.setCell ⟨W3.heap.size + 1, 0, none⟩ (.int .i64 u.to)).setCell ⟨W3.heap.size + 1, 1, none⟩ (.int .i64 u.y)).setCell ⟨W3.heap.size, 0, none⟩ (.int .i64 u.fr)).setCell ⟨W3.heap.size, 1, none⟩ (.int .i64 u.y)) = V4 from HE.out.symm]
            clear e0 e1 e2 e3 f0 f1 f2 f3 HE
            have HGP := Lib.hid (hL5.out.next HB8.out)
            have e0 := HA4.out.1.at_ 0 _ rfl
            have e1 := HA4.out.1.at_ 1 _ rfl
            have l0 := HGP.out.at_ 0 _ rfl
            have l1 := HGP.out.at_ 1 _ rfl
            obtain ⟨t, ht⟩ : ∃ t, max (u.to - lx) (-(u.to - lx)) = t := ⟨_, rfl⟩
            have htb : 0 ≤ t ∧ t ≤ 1000 := by omega
            obtain ⟨htb1, htb2⟩ := htb
            have HT9 := Lib.hid ht
            have HT8 : Hid (max (u.y - ly) (-(u.y - ly)) = u.y - ly) := by unfold Hid; omega
            have HXX : Hid (x + (t + (u.y - ly)) = tuK (ordS L) (k + 1 + 1 - 1)) := by
              unfold Hid
              rw [Nat.add_sub_cancel, HTN.out, ← HTP.out, show ((k + 1) % 2 == 0) = false by simp; omega]
              unfold tuB
              simp only [if_true, if_false, Bool.false_eq_true]
              rw [← HPX.out, ← HPY.out]
              omega
            have HXB : Hid (-14000 ≤ x + (t + (u.y - ly)) ∧ x + (t + (u.y - ly)) ≤ 14000) := by have h := HBN.out; rw [Nat.add_sub_cancel] at HXX; rw [← HXX.out] at h; exact Lib.hid h
            have hxb := HXB.out
            clear ht
            go_wp2_with fail
            have lc0 := lcell (e0)
            have lc1 := lcell (e1)
            have lc2 := lcell (l0)
            have lc3 := lcell (l1)
            refine region_later (W := V4) (by kernel_rfl) (by kernel_rfl) (Below.refl _ _) ?_
            repeat (go_big_quiet_step (((first | (go_at_call 96; with_reducible exact later_same (ws_v _ t HT9.out _ (by omega) (by omega))) | (go_at_call 96; with_reducible exact later_same (ws_v _ _ HT8.out _ (by omega) (by omega)))))))
            refine wpQuiet_nil ?_
            intro W5 hW1
            have HL : Hid (Below V4.heap.size V4 W5) := by obtain ⟨x, rfl⟩ := hW1; exact Lib.hid x.below
            clear hW1 lc0 lc1 lc2 lc3
            have HBV := Lib.hid (bthen HB8.out HL.out HB8.out.size)
            have HA5 := Lib.hid (And.intro (HA4.out.1.next HL.out) (HA4.out.2.next HL.out))
            have HG5 := Lib.hid (HGP.out.next HL.out)
            clear e0 e1 l0 l1
            have e2 := HA5.out.2.at_ 0 _ rfl
            have e3 := HA5.out.2.at_ 1 _ rfl
            have l0 := HG5.out.at_ 0 _ rfl
            have l1 := HG5.out.at_ 1 _ rfl
            have z0 := HG5.out.free 0
            have z1 := HG5.out.free 1
            have HL2 : Hid (Has ((W5.setCell ⟨g5, 0, none⟩ (.int .i64 u.fr)).setCell ⟨g5, 1, none⟩ (.int .i64 u.y)) g5 [.int .i64 u.fr, .int .i64 u.y]) := Lib.hid (has_pair9 HG5.out _ _)
            have HG2 : Hid (W2.grownBy ((W5.setCell ⟨g5, 0, none⟩ (.int .i64 u.fr)).setCell ⟨g5, 1, none⟩ (.int .i64 u.y)) (some g5)) := Lib.hid (grown_trans9 (grown_trans9 (grown_trans9 hG.out (grown_below9 _ HBV.out)) (grown_set _ _ _)) (grown_set _ _ _))
            have HB2 : Hid (Below w.heap.size w ((W5.setCell ⟨g5, 0, none⟩ (.int .i64 u.fr)).setCell ⟨g5, 1, none⟩ (.int .i64 u.y))) := Lib.hid (((bthen hB.out HBV.out hB.out.size).setCell (p := ⟨g5, 0, none⟩) HLW.out _).setCell (p := ⟨g5, 1, none⟩) HLW.out _)
            have HLY : Hid (0 < k + 1 + 1 → u.fr = (if (k + 1 + 1 - 1) % 2 = 0 then (lnAt (ordS L) (k + 1 + 1 - 1)).to else (lnAt (ordS L) (k + 1 + 1 - 1)).fr) ∧ u.y = (lnAt (ordS L) (k + 1 + 1 - 1)).y) := Lib.hid fun _ => by rw [Nat.add_sub_cancel, HLA.out]; rw [if_neg (by omega)]; exact ⟨rfl, rfl⟩
            go_wp2_with fail
            go_roundw
            case rel => first | exact ⟨k + 1 + 1, x + (t + (u.y - ly)), u.fr, u.y, by omega, HXB.out.1, HXB.out.2, q3, q2, by first | rfl | go_num, by first | rfl | go_num, HXX, HLY, HL2, HG2, HB2⟩ | ((repeat apply Exists.intro); exact ⟨⟨k + 1 + 1, x + (t + (u.y - ly)), u.fr, u.y, by omega, HXB.out.1, HXB.out.2, q3, q2, by first | rfl | go_num, by first | rfl | go_num, HXX, HLY, HL2, HG2, HB2⟩, rfl⟩)
            case measure => simp [intOf]; omega
    · obtain rfl : k = L.length := by omega
      have HF := Lib.hid (hT.out.trans HR.out)
      go_wp2_with fail
      go_ret2
      exact num_post HF.out rfl hB.out
end Go.Proofs.Ytdmnkmdlochogab
