/-
  Opposite passes, the program: contracts of impl.areOpposite, OppositeOn over this translation. Conditions: stated at each theorem.
-/
import Derived.Test.YtllfmjnniagjfaaJa
import Derived.Test.YtllfmjnniagjfaaJy
import Derived.Deep.DeepCutAuto
namespace Go.Proofs.Ytllfmjnniagjfaa
open Go.RowKit
set_option linter.unusedVariables false

theorem opp_same {a b : Int} (h1 : 0 ≤ a) (h2 : a ≤ 359) (h3 : 0 ≤ b) (h4 : b ≤ 359) : inB (max (a - b) (-(a - b))) 170 190 = opB a b := by
  unfold opB inB
  rw [Bool.eq_iff_iff]
  simp only [decide_eq_true_eq]
  omega
theorem opp_impl (a b : Int) (r : Bool) (h : opB a b = r) (w : World) (h1 : 0 ≤ a) (h2 : a ≤ 359) (h3 : 0 ≤ b) (h4 : b ≤ 359) :
    Calls Try.prog 84 #[.int .i64 a, .int .i64 b] w fun e w' => e = .returned (.bool r) ∧ w = w' := by
  rw [← opp_same h1 h2 h3 h4] at h
  obtain ⟨s, hs⟩ : ∃ s, max (a - b) (-(a - b)) = s := ⟨_, rfl⟩
  have HS := Lib.hid hs
  rw [hs] at h
  have H := Lib.hid h
  clear h hs
  go_enter Try.func84, Try.ntmps84
  go_wp2_with fail
  refine (ws_v _ s HS.out _ (by omega) (by omega)).mono ?_
  rintro e w' ⟨rfl, rfl⟩
  go_wp2_with fail
  refine (within_v _ _ _ _ H.out _).mono ?_
  rintro e w' ⟨rfl, rfl⟩
  go_wp2_with fail
  go_ret
  exact ⟨rfl, rfl⟩
set_option maxRecDepth 20000 in
set_option maxHeartbeats 6400000 in
theorem opposite_impl (A : Option Addr) (n c : Nat) (L : List PS) (l : Int) (w : World) (hs : SdsJ w w.heap.size A n L) (hm : n ≤ maxLen) :
    Calls Try.prog 32 #[.slice A n c, .int .i64 l] w (OpPost L l w) := by
  obtain rfl := hs.1
  have HS := Lib.hid hs
  clear hs
  rcases h1 : pssB L with _ | _
  · have H1 := Lib.hid h1
    clear h1
    go_enter Try.func32, Try.ntmps32
    go_wp2_with fail
    refine (pss_impl_v _ _ _ L _ H1.out _ HS.out hm).mono ?_
    rintro e w1 ⟨rfl, hb⟩
    have HC1 := Lib.hid (gp_startJ hb)
    clear hb
    go_wp2_with fail
    go_ret2
    exact op_no9 (op_1 H1.out) HC1.out
  have H1 := Lib.hid h1
  rcases h2 : inB l 1 999 with _ | _
  · have H2 := Lib.hid h2
    clear h1 h2
    go_enter Try.func32, Try.ntmps32
    go_wp2_with fail
    refine (pss_impl_v _ _ _ L _ H1.out _ HS.out hm).mono ?_
    rintro e w1 ⟨rfl, hb⟩
    have HC1 := Lib.hid (gp_startJ hb)
    clear hb
    go_wp2_with fail
    refine (logJ_impl _ _ H2.out _).mono ?_
    rintro e w' ⟨rfl, rfl⟩
    go_wp2_with fail
    go_ret2
    exact op_no9 (op_2 H2.out) HC1.out
  have H2 := Lib.hid h2
  have HG := Lib.hid (good11_of h1)
  have h12 := (good11_of h1).max
  have HK := Lib.hid (op_3 h1 h2)
  obtain ⟨i0, hi, hz0, hz1, hz2⟩ := info_parts infoInts
  have HI := Lib.hid (And.intro hi (And.intro hz0 (And.intro hz1 hz2)))
  clear h1 h2 hi hz0 hz1 hz2
  go_enter Try.func32, Try.ntmps32
  go_wp2_with fail
  refine (pss_impl_v _ _ _ L _ H1.out _ HS.out hm).mono ?_
  rintro e w1 ⟨rfl, hb⟩
  have HC1 : Hid (GpJ w (.slice (some ⟨w1.heap.size, 0, none⟩) 0 0) (opZ (opL L l 0)) (w1.alloc (.cells #[] 25))) := Lib.hid (gp_startJ hb)
  clear hb
  go_wp2_with fail
  refine (logJ_impl _ _ H2.out _).mono ?_
  rintro e w' ⟨rfl, rfl⟩
  go_wp2_with fail
  go_loopw [6, 23] (fun s i wr => ∃ (k : Nat) (v : Value), k ≤ L.length ∧ i = .int .i64 k ∧ s = v ∧ Hid (GpJ w v (opZ (opL L l k)) wr)) (fun _ i _ => L.length - (intOf i).toNat)
  case atStart => exact ⟨0, _, Nat.zero_le _, rfl, rfl, HC1⟩
  case round =>
    obtain ⟨i, v0, hi, rfl, hv0, hC⟩ := hrel
    have hv0' := hv0.symm
    clear hv0 HC1
    subst hv0'
    by_cases hlt : i < L.length
    · obtain ⟨G0, hA0, hIn0⟩ := hC.out
      have HSN0 := Lib.hid (sds_atJ HS.out hA0.2)
      obtain ⟨b, o, u, rfl, hbl, hL, c0, c1, c2, c3, c4, c5⟩ := HSN0.out.2 i hlt
      have HU := Lib.hid (psAt_at hL)
      have g1 := HG.out.one i hlt
      rw [psAt_at hL] at g1
      have k1 := g1.c0
      have k2 := g1.c1
      obtain ⟨X, hX⟩ : ∃ W, W = wr.alloc (.cells #[.int .i64 u.ln, .int .i64 u.bg, .int .i64 u.en, .int .i64 u.pi, .int .i64 u.bd, .int .i64 u.co] 40) := ⟨_, rfl⟩
      have HX9 : Hid (Below wr.heap.size wr X ∧ Has X wr.heap.size [.int .i64 u.ln, .int .i64 u.bg, .int .i64 u.en, .int .i64 u.pi, .int .i64 u.bd, .int .i64 u.co]) := by rw [hX]; exact box1 (Below.refl _ _)
      obtain ⟨q, hq⟩ : ∃ q, q = wr.heap.size := ⟨_, rfl⟩
      have HC2 : Hid (GpJ w v0 (opZ (opL L l i ++ opI L l i 0)) X) := by
        rw [show opL L l i ++ opI L l i 0 = opL L l i from List.append_nil _]
        exact Lib.hid (hC.out.next HX9.out.1)
      have HQ0 : Hid (Has X q [.int .i64 u.ln, .int .i64 u.bg, .int .i64 u.en, .int .i64 u.pi, .int .i64 u.bd, .int .i64 u.co] ∧ v0.ownBlock ≠ some q) := by
        rw [hq]
        exact Lib.hid ⟨HX9.out.2, fun e => by have := (hA0.1.lt _ e).2; omega⟩
      have HE := Lib.hid hX
      clear hL g1 hX hA0 hIn0
      go_upto_region 7 with fail
      rw [← HE.out, ← hq]
      clear c0 c1 c2 c3 c4 c5 hC HX9 HE hq HSN0 hbl
      go_wp2_with fail
      go_loopw [6, 9] (fun s p wr => ∃ (d : Nat) (v : Value), i + 1 + d ≤ L.length ∧ p = .int .i64 (i + 1 + d : Nat) ∧ s = v ∧ Hid (GpJ w v (opZ (opL L l i ++ opI L l i d)) wr) ∧ Hid (Has wr q [.int .i64 u.ln, .int .i64 u.bg, .int .i64 u.en, .int .i64 u.pi, .int .i64 u.bd, .int .i64 u.co] ∧ v.ownBlock ≠ some q)) (fun _ p _ => L.length - (intOf p).toNat)
      case atStart => exact ⟨0, _, by omega, by go_num, rfl, HC2, HQ0⟩
      case round =>
        obtain ⟨d, v1, hd, rfl, hv1, hD, hQ⟩ := hrel
        have hv1' := hv1.symm
        clear hv1 HC2 HQ0
        subst hv1'
        by_cases hlt2 : i + 1 + d < L.length
        · obtain ⟨G, hA, hIn⟩ := hD.out
          have HSN := Lib.hid (sds_atJ HS.out hA.2)
          obtain ⟨b', o', v, hA', hbl', hL', d0, d1, d2, d3, d4, d5⟩ := HSN.out.2 (i + 1 + d) hlt2
          obtain ⟨rfl, rfl⟩ : b = b' ∧ o = o' := by injection hA' with h; injection h with h h'; exact ⟨h, h'⟩
          have hv := psAt_at hL'
          have g2 := HG.out.one (i + 1 + d) hlt2
          rw [hv] at g2
          have k3 := g2.c0
          have k4 := g2.c1
          obtain ⟨t, ht⟩ : ∃ t, (v.co - u.co + 360) % 360 = t := ⟨_, rfl⟩
          have HP := Lib.hid (opP_of (l := l) HU.out hv ht)
          have HOB : Hid (opB u.co v.co = inB t 170 190) := by unfold Hid opB; rw [ht]
          have hln := opI_len L l i d
          have hll := opL_len L l h12 i (by omega)
          obtain ⟨RR, hRR⟩ : ∃ RR, RR = opZ (opL L l i ++ opI L l i d) := ⟨_, rfl⟩
          have hRL : RR.length ≤ 200 := by rw [hRR, opZ_len, List.length_append]; omega
          have HRR := Lib.hid hRR
          obtain ⟨X, hX⟩ : ∃ W, W = wr.alloc (.cells #[.int .i64 v.ln, .int .i64 v.bg, .int .i64 v.en, .int .i64 v.pi, .int .i64 v.bd, .int .i64 v.co] 40) := ⟨_, rfl⟩
          have HX9 : Hid (Below wr.heap.size wr X ∧ Has X wr.heap.size [.int .i64 v.ln, .int .i64 v.bg, .int .i64 v.en, .int .i64 v.pi, .int .i64 v.bd, .int .i64 v.co]) := by rw [hX]; exact box1 (Below.refl _ _)
          have HE := Lib.hid hX
          have HA1 := Lib.hid (hA.next HX9.out.1)
          have HI1 : Hid (In X w.heap.size G RR) := by rw [hRR]; exact Lib.hid ⟨hIn.1, hIn.2.1, fun k g p hg hp => ⟨(hIn.2.2 k g p hg hp).1, (hIn.2.2 k g p hg hp).2.next HX9.out.1⟩⟩
          have HD1 := Lib.hid (hD.out.next HX9.out.1)
          have HQ1 := Lib.hid (hQ.out.1.next HX9.out.1)
          have HNQ := Lib.hid hQ.out.2
          have a0 := HQ1.out.at_ 0 _ rfl
          have a5 := HQ1.out.at_ 5 _ rfl
          have b0 := HX9.out.2.at_ 0 _ rfl
          have b5 := HX9.out.2.at_ 5 _ rfl
          rw [← hRR] at HA1 HD1
          clear hL' hA' g2 ht hA hIn hRR hln hll hv hX hQ hD HSN hbl'
          go_upto_region 11 with fail
          rw [← HE.out]
          clear d0 d1 d2 d3 d4 d5 HE
          by_cases e1 : u.ln = l
          · by_cases e2 : v.ln = l
            · rcases e3 : inB t 170 190 with _ | _
              · have HPF : Hid (opP L l i (i + 1 + d) = false) := by unfold Hid; rw [HP.out]; simp [e1, e2, e3]
                have HY := Lib.hid (opI_skip (R := opL L l i) HPF.out)
                have hd1 : (u.ln == l) = true := beq_iff_eq.2 e1
                have hd2 : (v.ln == l) = true := beq_iff_eq.2 e2
                have H3 := Lib.hid (HOB.out.trans e3)
                clear e1 e2 e3
                have HD4 : Hid (GpJ w v1 (opZ (opL L l i ++ opI L l i (d + 1))) X) := by unfold Hid; rw [HY.out, ← HRR.out]; exact HD1.out
                have HQ4 : Hid (Has X q [.int .i64 u.ln, .int .i64 u.bg, .int .i64 u.en, .int .i64 u.pi, .int .i64 u.bd, .int .i64 u.co] ∧ v1.ownBlock ≠ some q) := Lib.hid ⟨HQ1.out, HNQ.out⟩
                go_wp2_with fail
                refine (opp_impl _ _ _ H3.out _ k1 k2 k3 k4).mono ?_
                rintro e w' ⟨rfl, hw'⟩
                obtain rfl := hw'
                clear a0 a5 b0 b5
                go_wp2_with fail
                go_roundw
                case rel => exact ⟨d + 1, _, by omega, by go_num, rfl, HD4, HQ4⟩
                case measure => simp [intOf]; omega
              · have HPF : Hid (opP L l i (i + 1 + d) = true) := by unfold Hid; rw [HP.out]; simp [e1, e2, e3]
                have HY := Lib.hid (opI_more (R := opL L l i) HPF.out)
                have hd1 : (u.ln == l) = true := beq_iff_eq.2 e1
                have hd2 : (v.ln == l) = true := beq_iff_eq.2 e2
                have H3 := Lib.hid (HOB.out.trans e3)
                have hqs : q < X.heap.size := HQ1.out.1
                clear e1 e2 e3
                go_wp2_with fail
                refine (opp_impl _ _ _ H3.out _ k1 k2 k3 k4).mono ?_
                rintro e w' ⟨rfl, hw'⟩
                obtain rfl := hw'
                clear a0 a5 b0 b5
                go_wp2_with (at_builtin; go_loud (refine wpList_append_own_at _ rfl _ _ 45 rfl w.heap.size 25 i0 (.slice none 0 0) 1 24 Try.underlying45 HI.out.1 HI.out.2.1 HI.out.2.2.1 HI.out.2.2.2 rfl (by decide) _ _ _ rfl ((HA1.out.1.alloc _).alloc _) ⟨X.heap.size + 1, 0, none⟩ 1 1 [.slice (some ⟨X.heap.size, 0, none⟩) 2 2] rfl rfl (by have h := cell_one_new (X.alloc (.cells #[.int .i64 (i : Int), .int .i64 ((i + 1 + d : Nat) : Int)] 3)) (.slice (some ⟨X.heap.size, 0, none⟩) 2 2) 25; rw [World.size_alloc] at h; exact h) (by simp [Value.oneCell']) (by unfold maxLen; omega) (by omega) (by have := HA1.out.2.size; simp; omega) ?_; intro v' w5 hown' hgrow _ hfr; have HN := Lib.hid (GpJ.step (x := (i : Int)) (y := ((i + 1 + d : Nat) : Int)) HA1.out HI1.out hown' (by simp) hgrow); have HQ4 := Lib.hid (And.intro (has_grown ((HQ1.out.alloc _).alloc _) hgrow (fun e => HNQ.out e.symm)) (show v'.ownBlock ≠ some q from fun e => by rcases hfr with h | h; exact HNQ.out (h ▸ e); rw [h] at e; have := Option.some.inj e; simp at this; omega)); clear hown' hgrow hfr))
                have HD4 : Hid (GpJ w v' (opZ (opL L l i ++ opI L l i (d + 1))) w5) := by unfold Hid; rw [HY.out, ← HRR.out]; exact HN.out
                clear HN
                go_roundw
                case rel => exact ⟨d + 1, _, by omega, by go_num, rfl, HD4, HQ4⟩
                case measure => simp [intOf]; omega
            · have HPF : Hid (opP L l i (i + 1 + d) = false) := by unfold Hid; rw [HP.out]; simp [e1, e2]
              have HY := Lib.hid (opI_skip (R := opL L l i) HPF.out)
              have hd1 : (u.ln == l) = true := beq_iff_eq.2 e1
              have hd2 : (v.ln == l) = false := beq_eq_false_iff_ne.2 e2
              clear e1 e2
              have HD4 : Hid (GpJ w v1 (opZ (opL L l i ++ opI L l i (d + 1))) X) := by unfold Hid; rw [HY.out, ← HRR.out]; exact HD1.out
              have HQ4 : Hid (Has X q [.int .i64 u.ln, .int .i64 u.bg, .int .i64 u.en, .int .i64 u.pi, .int .i64 u.bd, .int .i64 u.co] ∧ v1.ownBlock ≠ some q) := Lib.hid ⟨HQ1.out, HNQ.out⟩
              go_wp2_with fail
              go_roundw
              case rel => exact ⟨d + 1, _, by omega, by go_num, rfl, HD4, HQ4⟩
              case measure => simp [intOf]; omega
          · have HPF : Hid (opP L l i (i + 1 + d) = false) := by unfold Hid; rw [HP.out]; simp [e1]
            have HY := Lib.hid (opI_skip (R := opL L l i) HPF.out)
            have hd1 : (u.ln == l) = false := beq_eq_false_iff_ne.2 e1
            clear e1
            have HD4 : Hid (GpJ w v1 (opZ (opL L l i ++ opI L l i (d + 1))) X) := by unfold Hid; rw [HY.out, ← HRR.out]; exact HD1.out
            have HQ4 : Hid (Has X q [.int .i64 u.ln, .int .i64 u.bg, .int .i64 u.en, .int .i64 u.pi, .int .i64 u.bd, .int .i64 u.co] ∧ v1.ownBlock ≠ some q) := Lib.hid ⟨HQ1.out, HNQ.out⟩
            go_wp2_with fail
            go_roundw
            case rel => exact ⟨d + 1, _, by omega, by go_num, rfl, HD4, HQ4⟩
            case measure => simp [intOf]; omega
        · obtain rfl : d = L.length - i - 1 := by omega
          have HC3 : Hid (GpJ w v1 (opZ (opL L l (i + 1))) wr) := hD
          go_wp2_with fail
          go_roundw
          case rel => exact ⟨i + 1, _, by omega, by go_num, rfl, HC3⟩
          case measure => simp [intOf]; omega
    · obtain rfl : i = L.length := by omega
      have HQ := Lib.hid (op_yes9 HK.out hC.out)
      go_wp2_with fail
      go_ret2
      exact HQ.out
end Go.Proofs.Ytllfmjnniagjfaa
