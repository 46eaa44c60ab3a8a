/-
  The worst line: contracts of impl.crossedLines, WorstLine, spec.WorstLine over this translation. Conditions: stated at each theorem.
-/
import Derived.Test.YtlakdlghkniegaaKf
namespace Go.Proofs.Ytlakdlghkniegaa
open Go.RowKit
set_option linter.unusedVariables false

/-! ### The lines that occur -/
theorem own_pos {w : World} {base e z n : Nat} {v : Value} {xs : List Value} (h : w.ownsRow base e z v n xs) (h0 : 0 < n) : ∃ g cap, v = .slice (some ⟨g, 0, none⟩) n cap := by
  obtain ⟨_, ⟨_, hn⟩ | ⟨g, cap, cur, hv, _⟩⟩ := h
  · omega
  · exact ⟨g, cap, hv⟩
theorem ivs_at {ls : List Int} {j : Nat} {v : Int} (h : ls[j]? = some v) : (ivs ls)[j]? = some (.int .i64 v) := by simp [ivs, h]
theorem cross_hit {L : List XD} {k i : Nat} {u : XD} (hu : L[k]? = some u) (h1 : ∀ p y, (crL9 L k)[p]? = some y → p < i → y < u.ln) (h2 : (crL9 L k)[i]? = some u.ln) : crL9 L (k + 1) = crL9 L k := by rw [crL9, xdAt_at hu, insL_hit h1 h2]
theorem cross_mid {L : List XD} {k i : Nat} {u : XD} {z : Int} (hu : L[k]? = some u) (h1 : ∀ p y, (crL9 L k)[p]? = some y → p < i → y < u.ln) (h2 : (crL9 L k)[i]? = some z) (h3 : u.ln < z) : crL9 L (k + 1) = (crL9 L k).take i ++ u.ln :: (crL9 L k).drop i := by rw [crL9, xdAt_at hu, insL_mid h1 h2 h3]
theorem cross_end {L : List XD} {k : Nat} {u : XD} (hu : L[k]? = some u) (h1 : ∀ p y, (crL9 L k)[p]? = some y → p < (crL9 L k).length → y < u.ln) : crL9 L (k + 1) = crL9 L k ++ [u.ln] := by
  rw [crL9, xdAt_at hu, insL_end fun y hy => ?_]
  obtain ⟨p, hp⟩ := List.mem_iff_getElem?.1 hy
  exact h1 p y hp (List.getElem?_eq_some_iff.1 hp).1
theorem shape_newK (w : World) (x : Value) (T : TypeId) : (w.alloc (.cells #[x] T)).shape? w.heap.size = some (T, 1) := by
  unfold World.shape?
  rw [heap_newK]
  rfl
set_option maxRecDepth 20000 in
set_option maxHeartbeats 1600000 in
theorem lines_impl (A : Option Addr) (n c : Nat) (L : List XD) (w : World) (hs : SdsX w w.heap.size A n L) (h10 : n ≤ 10) :
    Calls Try.prog 79 #[.slice A n c] w fun e w' => ∃ v, e = .returned v ∧ Col w 3 1 v (crL9 L L.length).length (ivs (crL9 L L.length)) w' := by
  obtain rfl := hs.1
  obtain ⟨i0, hi, hz0, hz1, hz2⟩ := info_parts info3
  have HI := Lib.hid (And.intro hi (And.intro hz0 (And.intro hz1 hz2)))
  clear hi hz0 hz1 hz2
  have HS := Lib.hid hs
  clear hs
  have HC0 : Hid (Col w 3 1 (.slice (some ⟨w.heap.size, 0, none⟩) 0 0) 0 (ivs (crL9 L 0)) (w.alloc (.cells #[] 3))) := Lib.hid (col_start 3 1 (Below.refl _ _))
  go_enter Try.func79, Try.ntmps79
  go_wp2_with fail
  go_step3
  go_wp2_with fail
  go_step3
  go_wp2_with fail
  go_loopw [3, 11] (fun s i wr => ∃ (k m : Nat) (A9 : Option Addr) (c9 : Nat), k ≤ L.length ∧ m ≤ k ∧ i = .int .i64 k ∧ s = .slice A9 m c9 ∧ Hid (m = (crL9 L k).length) ∧ Hid (Col w 3 1 (.slice A9 m c9) m (ivs (crL9 L k)) wr)) (fun _ i _ => L.length - (intOf i).toNat)
  case atStart => exact ⟨0, 0, _, _, Nat.zero_le _, Nat.zero_le _, rfl, rfl, Lib.hid rfl, HC0⟩
  case round =>
    obtain ⟨k, m, A9, c9, hk, hmk, rfl, rfl, hM, hR⟩ := hrel
    by_cases hlt : k < L.length
    · obtain ⟨b, o, u, rfl, hbl, hL, c0, c1, c2, c3⟩ := (sds_atX HS.out hR.out.2).2 k hlt
      have HK := Lib.hid hL
      obtain ⟨W3, hW3⟩ : ∃ W, W = wr.alloc (.cells #[.int .i64 u.ln, .int .i64 u.cr, .int .i64 u.mn, .int .i64 u.ck] 45) := ⟨_, rfl⟩
      have HW : Hid (Below wr.heap.size wr W3 ∧ Has W3 wr.heap.size [.int .i64 u.ln, .int .i64 u.cr, .int .i64 u.mn, .int .i64 u.ck]) := by rw [hW3]; exact box1 (Below.refl _ _)
      have HR3 := Lib.hid (hR.out.next HW.out.1)
      have HGE : Hid (wr.heap.size < W3.heap.size) := by rw [hW3]; exact Lib.hid (by simp)
      have a0 := HW.out.2.at_ 0 _ rfl
      have HE3 := Lib.hid hW3
      clear hW3 hL
      go_upto_region 5 with fail
      rw [← HE3.out]
      clear c0 c1 c2 c3 HE3
      go_wp2_with fail
      go_loopw [3, 17] (fun s i wq => ∃ q : Nat, q ≤ m ∧ i = .int .i64 q ∧ s = .slice A9 m c9 ∧ wq = W3 ∧ Hid (∀ p y, (crL9 L k)[p]? = some y → p < q → y < u.ln)) (fun _ i _ => m - (intOf i).toNat)
      case atStart => exact ⟨0, Nat.zero_le _, rfl, rfl, rfl, Lib.hid fun p y _ h => absurd h (by omega)⟩
      case round =>
        obtain ⟨q, hq, rfl, rfl, hwq, hP⟩ := hrel
        rw [hwq]
        clear hwq
        by_cases hql : q < m
        · obtain ⟨z, hz⟩ : ∃ z, (crL9 L k)[q]? = some z := ⟨_, List.getElem?_eq_getElem (by have := hM.out; omega)⟩
          obtain ⟨g, cap, hv9⟩ := own_pos HR3.out.1 (show 0 < m by omega)
          injection hv9 with hv1 hv2 hv3
          subst hv1 hv3
          have HRP := Lib.hid (own_parts HR3.out.1)
          have cz := HRP.out.2.2.2.2.2.2.2.2 q _ (ivs_at hz)
          have HZ := Lib.hid hz
          rcases Int.lt_trichotomy z u.ln with hlt2 | heq | hgt
          · have hd1 : (z == u.ln) = false := beq_eq_false_iff_ne.2 (by omega)
            have hd2 : decide (z > u.ln) = false := decide_eq_false (by omega)
            have HP2 : Hid (∀ p y, (crL9 L k)[p]? = some y → p < q + 1 → y < u.ln) := Lib.hid fun p y hy hp => by
              rcases Nat.lt_or_ge p q with h | h
              · exact hP.out p y hy h
              · obtain rfl : p = q := by omega
                obtain rfl : z = y := Option.some.inj (HZ.out.symm.trans hy)
                exact hlt2
            clear hz
            go_wp2_with fail
            go_roundw
            case rel => exact ⟨q + 1, by omega, by go_num, by first | rfl | trivial, by first | rfl | trivial, HP2⟩
            case measure => simp [intOf]; omega
          · have hd1 : (z == u.ln) = true := beq_iff_eq.2 heq
            have HT := Lib.hid (cross_hit HK.out hP.out (by rw [HZ.out, heq]))
            have HR4 : Hid (Col w 3 1 (.slice (some ⟨g, 0, none⟩) m c9) m (ivs (crL9 L (k + 1))) W3) := by unfold Hid; rw [HT.out]; exact HR3.out
            have HM4 : Hid (m = (crL9 L (k + 1)).length) := by unfold Hid; rw [HT.out]; exact hM.out
            clear hz
            go_wp2_with fail
            go_roundw
            case rel => exact ⟨k + 1, m, _, _, by omega, by omega, by go_num, rfl, HM4, HR4⟩
            case measure => simp [intOf]; omega
          · have hd1 : (z == u.ln) = false := beq_eq_false_iff_ne.2 (by omega)
            have hd2 : decide (z > u.ln) = true := decide_eq_true hgt
            have HT := Lib.hid (cross_mid HK.out hP.out HZ.out hgt)
            have HM4 : Hid (m + 1 = (crL9 L (k + 1)).length) := by unfold Hid; rw [HT.out]; have := hM.out; simp; omega
            have HNW := Has.new W3 #[.int .i64 u.ln] 3
            have HR4 := Lib.hid (HR3.out.next ((Below.refl W3.heap.size W3).alloc (Nat.le_refl _) (.cells #[.int .i64 u.ln] 3)))
            have HIN := Lib.hid (insert_own w.heap.size g m c9 q W3.heap.size (crL9 L k) u.ln (W3.alloc (.cells #[.int .i64 u.ln] 3)) HR4.out.1 hql (by omega) (by have := HRP.out.2.2.2.2.1; omega) (HNW.at_ 0 _ rfl) (shape_newK _ _ _) HNW.free HR4.out.2.size)
            clear hz HNW
            go_wp2_with fail
            refine HIN.out.mono ?_
            rintro e W5 ⟨g', cap', rfl, ho, hgr⟩
            have HR5 : Hid (Col w 3 1 (.slice (some ⟨g', 0, none⟩) (m + 1) cap') (m + 1) (ivs (crL9 L (k + 1))) W5) := by unfold Hid; rw [HT.out]; exact HR4.out.grow ho hgr
            clear ho hgr
            go_wp2_with fail
            go_roundw
            case rel => exact ⟨k + 1, m + 1, _, _, by omega, by omega, by go_num, rfl, HM4, HR5⟩
            case measure => simp [intOf]; omega
        · obtain rfl : q = m := by omega
          have HT := Lib.hid (cross_end HK.out (fun p y hy hp => hP.out p y hy (by have := hM.out; omega)))
          have HR9 := HR3
          obtain ⟨W9, rfl⟩ : ∃ W : World, W = W3 := ⟨_, rfl⟩
          go_wp2_with (at_builtin; go_loud (refine wpList_append_own_at _ rfl _ _ 27 rfl w.heap.size 3 i0 (.int .i64 0) 1 8 Try.underlying27 HI.out.1 HI.out.2.1 HI.out.2.2.1 HI.out.2.2.2 rfl (by decide) _ _ _ rfl (HR9.out.1.alloc _) ⟨W9.heap.size, 0, none⟩ 1 1 [.int .i64 u.ln] rfl rfl (one_newX _ _ _) (by simp [Value.oneCell']) (by unfold maxLen; omega) (by omega) (by have := HR9.out.2.size; simp; omega) ?_; intro v' w5 hown' hgrow _ hfr; have HN := Lib.hid (HR9.out.step hown' hgrow); clear hown' hgrow hfr))
          have HM4 : Hid (q + 1 = (crL9 L (k + 1)).length) := by unfold Hid; rw [HT.out, List.length_append, ← hM.out]; rfl
          have hn4 : Col w 3 1 v' (q + 1) (ivs (crL9 L (k + 1))) w5 := by rw [HT.out, ivs_snoc]; exact HN.out
          obtain ⟨A5, c5, rfl⟩ := own_slice hn4.1
          have HR5 := Lib.hid hn4
          clear hn4 HN
          go_roundw
          case rel => exact ⟨k + 1, q + 1, _, _, by omega, by omega, by go_num, rfl, HM4, HR5⟩
          case measure => simp [intOf]; omega
    · obtain rfl : k = L.length := by omega
      have HR' : Hid (Col w 3 1 (.slice A9 m c9) (crL9 L L.length).length (ivs (crL9 L L.length)) wr) := by unfold Hid; rw [← hM.out]; exact hR.out
      have HMM := hM
      go_wp2_with fail
      try rw [Exit.noGoto_ret]
      go_ret
      exact ⟨.slice A9 m c9, rfl, HR'.out⟩
/-! ### WorstLine -/
def wlR (L : List XD) : Int := if mdK L then (woK L 99).1 else 0
theorem wl_no {L : List XD} {w w' : World} (h : mdK L = false) (hb : Below w.heap.size w w') : Num2X (wlR L) (mdK L) w (.returned (.tuple #[.int .i64 0, .bool false])) w' := by
  unfold wlR
  rw [h]
  exact ⟨rfl, hb⟩
theorem wl_yes {L : List XD} {x : Int} {w w' : World} (h : mdK L = true) (hx : x = (woK L 99).1) (hb : Below w.heap.size w w') : Num2X (wlR L) (mdK L) w (.returned (.tuple #[.int .i64 x, .bool true])) w' := by
  unfold wlR
  rw [h, hx]
  exact ⟨rfl, hb⟩
set_option maxRecDepth 20000 in
set_option maxHeartbeats 3200000 in
theorem worst_impl (A : Option Addr) (n c : Nat) (L : List XD) (w : World) (hs : SdsX w w.heap.size A n L) (hm : n ≤ maxLen) (hcap : n ≤ c) :
    Calls Try.prog 37 #[.slice A n c] w (Num2X (wlR L) (mdK L) w) := by
  obtain rfl := hs.1
  have HX0 := box1 (w := w) (cs := #[.slice A L.length c]) (T := 24) (Below.refl _ _)
  have HS := Lib.hid (sds_atX hs HX0.1)
  have HX := Lib.hid HX0
  clear hs HX0
  have l0 := HX.out.2.at_ 0 _ rfl
  rcases ha : xdsB L with _ | _
  · have HA := Lib.hid ha
    clear ha
    go_enter Try.func37, Try.ntmps37
    go_wp2_with fail
    refine (xds_impl_v _ _ _ L _ HA.out _ HS.out hm hcap).mono ?_
    rintro e w1 ⟨rfl, hb⟩
    have HB1 := Lib.hid (bthen HX.out.1 hb HX.out.1.size)
    clear hb
    go_wp2_with fail
    go_ret2
    exact wl_no (md_1 HA.out) HB1.out
  have HA := Lib.hid ha
  have HG := Lib.hid (good10_of ha)
  have h10 := (good10_of ha).max
  clear ha
  by_cases h0 : L.length = 0
  · have HZ := Lib.hid h0
    have hz : (((L.length : Nat) : Int) == 0) = true := beq_iff_eq.2 (by omega)
    clear h0
    go_enter Try.func37, Try.ntmps37
    go_wp2_with fail
    refine (xds_impl_v _ _ _ L _ HA.out _ HS.out hm hcap).mono ?_
    rintro e w1 ⟨rfl, hb⟩
    have HB1 := Lib.hid (bthen HX.out.1 hb HX.out.1.size)
    have l1 := (HX.out.2.next hb).at_ 0 _ rfl
    clear hb l0
    go_wp2_with fail
    go_ret2
    exact wl_no (md_2 HZ.out) HB1.out
  have hz : (((L.length : Nat) : Int) == 0) = false := beq_eq_false_iff_ne.2 (by omega)
  have hpos : 0 < L.length := by omega
  obtain ⟨ls, hls⟩ : ∃ ls, crL9 L L.length = ls := ⟨_, rfl⟩
  have hll : ls.length ≤ 10 := by have := crL9_len L L.length; rw [hls] at this; omega
  have hlp : 0 < ls.length := by rw [← hls]; exact crL9_pos hpos
  have HLS := Lib.hid hls
  have HLM : Hid (∀ l, l ∈ ls → 0 < loN L l L.length) := Lib.hid fun l hl => by rw [← hls] at hl; exact crL9_iff.1 hl
  obtain ⟨x, hx⟩ : ∃ x, wmK L ls (ls.length - 1) = x := ⟨_, rfl⟩
  have hxl : x < ls.length := by have := wmK_le L ls (ls.length - 1); omega
  obtain ⟨z, hzz⟩ : ∃ z, ls[x]? = some z := ⟨_, List.getElem?_eq_getElem hxl⟩
  have HXW := Lib.hid hx
  have HZZ := Lib.hid hzz
  have HW : Hid (z = (woK L 99).1) := by
    have := worst_same HG.out hpos
    rw [hls, hx, List.getD_eq_getElem?_getD, hzz] at this
    exact Lib.hid this
  clear hls hx hzz h0
  go_enter Try.func37, Try.ntmps37
  go_wp2_with fail
  refine (xds_impl_v _ _ _ L _ HA.out _ HS.out hm hcap).mono ?_
  rintro e w1 ⟨rfl, hb⟩
  have HB1 := Lib.hid (bthen HX.out.1 hb HX.out.1.size)
  have HX1 := Lib.hid (HX.out.2.next hb)
  have HS1 := Lib.hid (sds_atX HS.out hb)
  have l1 := HX1.out.at_ 0 _ rfl
  clear hb l0
  go_wp2_with fail
  refine (lines_impl _ _ _ L _ HS1.out h10).mono ?_
  rw [HLS.out]
  rintro e W2 ⟨v, rfl, hc⟩
  obtain ⟨g, cap, rfl⟩ := own_pos hc.1 hlp
  have HRP := Lib.hid (own_parts hc.1)
  have HB2 := Lib.hid (bthen HB1.out hc.2 HB1.out.size)
  have HX2 := Lib.hid (HX1.out.next hc.2)
  have HS2 := Lib.hid (sds_atX HS1.out hc.2)
  clear hc l1
  go_wp2_with fail
  refine (mostI_impl g ls.length cap w.heap.size _ _ _ L ls x HXW.out _ rfl (fun j v hj => HRP.out.2.2.2.2.2.2.2.2 j _ (ivs_at hj)) (HX2.out.at_ 0 _ rfl) HS2.out HG.out HLM.out hlp (by omega)).mono ?_
  rintro e W3 ⟨rfl, hb⟩
  have HB3 := Lib.hid (bthen HB2.out hb HB2.out.size)
  have cz := cell_next hb (HRP.out.2.2.2.2.2.2.2.2 x _ (ivs_at HZZ.out))
  clear hb
  go_wp2_with fail
  go_ret2
  exact wl_yes (md_3 HA.out hpos) HW.out HB3.out
/-! ### The law's model -/
structure WoB (L : List XD) (k : Nat) (a b c : Int) : Prop where
  is : woK L k = (a, b, c)
  a0 : 0 ≤ a
  a1 : a ≤ 99
  b0 : 0 ≤ b
  b1 : b ≤ 210000
  c0 : 1 ≤ c
  c1 : c ≤ 10
theorem wo_zero (L : List XD) : WoB L 0 0 0 1 := ⟨rfl, by omega, by omega, by omega, by omega, by omega, by omega⟩
theorem wo_take {L : List XD} {k : Nat} {a b c S : Int} {N : Nat} (h : WoB L k a b c) (hk : k < 99) (hg : Good10 L) (hS : loS L (k + 1) L.length = S) (hN : loN L (k + 1) L.length = N) (h1 : 0 < N) (h2 : a = 0 ∨ b * N < szI S * c) : WoB L (k + 1) (k + 1) (szI S) N := by
  have hb := loS_bd hg (k + 1) L.length (Nat.le_refl _)
  have hl := loN_le L (k + 1) L.length
  have hm := hg.max
  rw [hS, hN] at hb
  rw [hN] at hl
  have hs := szI_nonneg S
  refine ⟨?_, by omega, by omega, hs, by unfold szI; omega, by omega, by omega⟩
  rw [woK, h.is]
  simp only
  rw [hN, hS, if_pos ⟨h1, h2⟩]
theorem wo_keep {L : List XD} {k : Nat} {a b c S : Int} {N : Nat} (h : WoB L k a b c) (hS : loS L (k + 1) L.length = S) (hN : loN L (k + 1) L.length = N) (h2 : ¬ (0 < N ∧ (a = 0 ∨ b * N < szI S * c))) : WoB L (k + 1) a b c := by
  refine ⟨?_, h.a0, h.a1, h.b0, h.b1, h.c0, h.c1⟩
  rw [woK, h.is]
  simp only
  rw [hN, hS, if_neg h2]
set_option maxRecDepth 20000 in
set_option maxHeartbeats 6400000 in
theorem worst_spec (A : Option Addr) (n c : Nat) (L : List XD) (w : World) (hs : SdsX w w.heap.size A n L) (hm : n ≤ maxLen) :
    Calls Try.prog 38 #[.slice A n c] w (Num2X (wlR L) (mdK L) w) := by
  obtain rfl := hs.1
  have HS := Lib.hid hs
  clear hs
  rcases ha : xdsB L with _ | _
  · have HA := Lib.hid ha
    clear ha
    go_enter Try.func38, Try.ntmps38
    go_wp2_with fail
    refine (xgood_spec_v _ _ _ L _ HA.out _ HS.out hm).mono ?_
    rintro e w1 ⟨rfl, hb⟩
    have HB1 := Lib.hid hb
    clear hb
    go_wp2_with fail
    go_ret2
    exact wl_no (md_1 HA.out) HB1.out
  have HA := Lib.hid ha
  have HG := Lib.hid (good10_of ha)
  have h10 := (good10_of ha).max
  clear ha
  by_cases h0 : L.length = 0
  · have HZ := Lib.hid h0
    have hz : (((L.length : Nat) : Int) == 0) = true := beq_iff_eq.2 (by omega)
    clear h0
    go_enter Try.func38, Try.ntmps38
    go_wp2_with fail
    refine (xgood_spec_v _ _ _ L _ HA.out _ HS.out hm).mono ?_
    rintro e w1 ⟨rfl, hb⟩
    have HB1 := Lib.hid hb
    clear hb
    go_wp2_with fail
    go_ret2
    exact wl_no (md_2 HZ.out) HB1.out
  have hz : (((L.length : Nat) : Int) == 0) = false := beq_eq_false_iff_ne.2 (by omega)
  have hpos : 0 < L.length := by omega
  clear h0
  go_enter Try.func38, Try.ntmps38
  go_wp2_with fail
  refine (xgood_spec_v _ _ _ L _ HA.out _ HS.out hm).mono ?_
  rintro e w1 ⟨rfl, hb⟩
  have HB1 := Lib.hid hb
  clear hb
  go_wp2_with fail
  go_loopw [4, 5, 6, 7] (fun x y z i wr => ∃ (k : Nat) (a b d : Int), k ≤ 99 ∧ i = .int .i64 ((k : Int) + 1) ∧ x = .int .i64 a ∧ y = .int .i64 b ∧ z = .int .i64 d ∧ (0 ≤ a ∧ a ≤ 99) ∧ (0 ≤ b ∧ b ≤ 210000) ∧ (1 ≤ d ∧ d ≤ 10) ∧ Hid (WoB L k a b d) ∧ Hid (Below w.heap.size w wr)) (fun _ _ _ i _ => 100 - (intOf i).toNat)
  case atStart => exact ⟨0, 0, 0, 1, by omega, rfl, rfl, rfl, rfl, by omega, by omega, by omega, Lib.hid (wo_zero L), HB1⟩
  case round =>
    obtain ⟨k, a, b, d, hk, rfl, rfl, rfl, rfl, ⟨a1, a2⟩, ⟨b1, b2⟩, ⟨d1, d2⟩, hW, hB⟩ := hrel
    by_cases hlt : k < 99
    · obtain ⟨S, hS⟩ : ∃ S, loS L ((k : Int) + 1) L.length = S := ⟨_, rfl⟩
      obtain ⟨N, hN⟩ : ∃ N, loN L ((k : Int) + 1) L.length = N := ⟨_, rfl⟩
      have hbd := loS_bd HG.out ((k : Int) + 1) L.length (Nat.le_refl _)
      have hle := loN_le L ((k : Int) + 1) L.length
      rw [hS, hN] at hbd
      rw [hN] at hle
      obtain ⟨s1, s2⟩ := hbd
      have HSN := Lib.hid (And.intro hS hN)
      obtain ⟨t, ht⟩ : ∃ t, szI S = t := ⟨_, rfl⟩
      have ht1 : 0 ≤ t ∧ t ≤ 210000 := by rw [← ht]; unfold szI; omega
      obtain ⟨t1, t2⟩ := ht1
      have HT := Lib.hid ht
      obtain ⟨p1, p2⟩ := mul_bdK (x := t) (y := d) t1 t2 (by omega) d2
      obtain ⟨p3, p4⟩ := mul_bdK (x := b) (y := (N : Int)) b1 b2 (by omega) (by omega)
      have HSX := Lib.hid (sds_atX HS.out hB.out)
      have HKEEP : Hid (¬ (0 < N ∧ (a = 0 ∨ b * N < t * d)) → WoB L (k + 1) a b d) := Lib.hid fun h => wo_keep hW.out hS hN (by rw [ht]; exact h)
      have HTAKE : Hid (0 < N → (a = 0 ∨ b * N < t * d) → WoB L (k + 1) ((k : Int) + 1) t N) := Lib.hid fun h h2 => by rw [← ht]; exact wo_take hW.out hlt HG.out hS hN h (by rw [ht]; exact h2)
      clear hS hN ht
      have hdk : decide ((k : Int) + 1 ≤ 99) = true := decide_eq_true (by omega)
      by_cases hn : N = 0
      · subst hn
        go_wp2_with fail
        refine (off_spec _ _ _ L ((k : Int) + 1) S _ HSN.out.1 HSN.out.2 HG.out _ HSX.out hm).mono ?_
        rintro e w2 ⟨rfl, hb⟩
        have HB2 := Lib.hid (bthen hB.out hb hB.out.size)
        clear hb
        go_wp2_with fail
        go_roundw
        case rel => exact ⟨k + 1, a, b, d, by omega, by go_num, rfl, rfl, rfl, ⟨a1, a2⟩, ⟨b1, b2⟩, ⟨d1, d2⟩, Lib.hid (HKEEP.out (by omega)), HB2⟩
        case measure => simp [intOf]; omega
      have hdn : decide ((N : Int) > 0) = true := decide_eq_true (by omega)
      by_cases ha0 : a = 0
      · subst ha0
        go_wp2_with fail
        refine (off_spec _ _ _ L ((k : Int) + 1) S _ HSN.out.1 HSN.out.2 HG.out _ HSX.out hm).mono ?_
        rintro e w2 ⟨rfl, hb⟩
        have HB2 := Lib.hid (bthen hB.out hb hB.out.size)
        clear hb
        go_wp2_with fail
        refine (sz_spec S t HT.out _ (by omega) (by omega)).mono ?_
        rintro e w' ⟨rfl, rfl⟩
        go_wp2_with fail
        go_roundw
        case rel => exact ⟨k + 1, (k : Int) + 1, t, N, by omega, by go_num, rfl, rfl, rfl, by omega, ⟨t1, t2⟩, by omega, Lib.hid (HTAKE.out (by omega) (.inl (by simp))), HB2⟩
        case measure => simp [intOf]; omega
      have hda : (a == 0) = false := beq_eq_false_iff_ne.2 ha0
      have hda2 : decide (a = 0) = false := decide_eq_false ha0
      by_cases hc : b * N < t * d
      · have hdc : decide (t * d > b * (N : Int)) = true := decide_eq_true hc
        go_wp2_with fail
        refine (off_spec _ _ _ L ((k : Int) + 1) S _ HSN.out.1 HSN.out.2 HG.out _ HSX.out hm).mono ?_
        rintro e w2 ⟨rfl, hb⟩
        have HB2 := Lib.hid (bthen hB.out hb hB.out.size)
        clear hb
        go_wp2_with fail
        refine (sz_spec S t HT.out _ (by omega) (by omega)).mono ?_
        rintro e w' ⟨rfl, rfl⟩
        go_wp2_with fail
        refine (sz_spec S t HT.out _ (by omega) (by omega)).mono ?_
        rintro e w' ⟨rfl, rfl⟩
        go_wp2_with fail
        go_roundw
        case rel => exact ⟨k + 1, (k : Int) + 1, t, N, by omega, by go_num, rfl, rfl, rfl, by omega, ⟨t1, t2⟩, by omega, Lib.hid (HTAKE.out (by omega) (.inr hc)), HB2⟩
        case measure => simp [intOf]; omega
      · have hdc : decide (t * d > b * (N : Int)) = false := decide_eq_false hc
        have HNC : Hid (¬ (0 < N ∧ (a = 0 ∨ b * N < t * d))) := Lib.hid (fun h => h.2.elim ha0 hc)
        go_wp2_with fail
        refine (off_spec _ _ _ L ((k : Int) + 1) S _ HSN.out.1 HSN.out.2 HG.out _ HSX.out hm).mono ?_
        rintro e w2 ⟨rfl, hb⟩
        have HB2 := Lib.hid (bthen hB.out hb hB.out.size)
        clear hb
        go_wp2_with fail
        refine (sz_spec S t HT.out _ (by omega) (by omega)).mono ?_
        rintro e w' ⟨rfl, rfl⟩
        go_wp2_with fail
        go_roundw
        case rel => exact ⟨k + 1, a, b, d, by omega, by go_num, rfl, rfl, rfl, ⟨a1, a2⟩, ⟨b1, b2⟩, ⟨d1, d2⟩, Lib.hid (HKEEP.out HNC.out), HB2⟩
        case measure => simp [intOf]; omega
    · obtain rfl : k = 99 := by omega
      have HR : Hid (a = (woK L 99).1) := by unfold Hid; rw [hW.out.is]
      go_wp2_with fail
      go_ret2
      exact wl_yes (md_3 HA.out hpos) HR.out hB.out
end Go.Proofs.Ytlakdlghkniegaa
