/-
  Opposite passes, the law's model: contract of spec.OppositeOn over this translation. Conditions: stated at each theorem.
-/
import Derived.Test.YtllfmjnniagjfaaJs
import Derived.Test.YtllfmjnniagjfaaRj
namespace Go.Proofs.Ytllfmjnniagjfaa
open Go.RowKit
set_option linter.unusedVariables false

def opZ (l : List (Nat × Nat)) : List (Int × Int) := l.map fun q => ((q.1 : Int), (q.2 : Int))
theorem opZ_len (l : List (Nat × Nat)) : (opZ l).length = l.length := by simp [opZ]
theorem opZ_app (l m : List (Nat × Nat)) : opZ (l ++ m) = opZ l ++ opZ m := by simp [opZ]
theorem opL_len (L : List PS) (l : Int) (h : L.length ≤ 12) : ∀ i, i ≤ 12 → (opL L l i).length ≤ 12 * i
  | 0, _ => by simp [opL]
  | i + 1, hi => by
    have h1 := opL_len L l h i (by omega)
    have h2 := opI_len L l i (L.length - i - 1)
    rw [opL, List.length_append]
    omega
def opK9 (L : List PS) (l : Int) : Bool := pssB L && inB l 1 999
def opR9 (L : List PS) (l : Int) : List (Int × Int) := if opK9 L l then opZ (opL L l L.length) else []
def OpPost (L : List PS) (l : Int) (w : World) : Ending → World → Prop := RowsPost (opR9 L l) (opK9 L l) w
theorem op_no9 {L : List PS} {l : Int} {w w' : World} {v : Value} (hk : opK9 L l = false) (h : GpJ w v [] w') : OpPost L l w (.returned (.tuple #[v, .bool false])) w' := by
  unfold OpPost opR9
  rw [hk]
  exact rows_of_gpJ h
theorem op_yes9 {L : List PS} {l : Int} {w w' : World} {v : Value} (hk : opK9 L l = true) (h : GpJ w v (opZ (opL L l L.length)) w') : OpPost L l w (.returned (.tuple #[v, .bool true])) w' := by
  unfold OpPost opR9
  rw [hk, if_pos rfl]
  exact rows_of_gpJ h
theorem op_1 {L : List PS} {l : Int} (h : pssB L = false) : opK9 L l = false := by unfold opK9; rw [h]; rfl
theorem op_2 {L : List PS} {l : Int} (h : inB l 1 999 = false) : opK9 L l = false := by unfold opK9; rw [h, Bool.and_false]
theorem op_3 {L : List PS} {l : Int} (h1 : pssB L = true) (h2 : inB l 1 999 = true) : opK9 L l = true := by unfold opK9; rw [h1, h2]; rfl
theorem opI_skip {L : List PS} {l : Int} {i d : Nat} {R : List (Nat × Nat)} (h : opP L l i (i + 1 + d) = false) : opZ (R ++ opI L l i (d + 1)) = opZ (R ++ opI L l i d) := by
  rw [opI, h]; simp
theorem opI_more {L : List PS} {l : Int} {i d : Nat} {R : List (Nat × Nat)} (h : opP L l i (i + 1 + d) = true) : opZ (R ++ opI L l i (d + 1)) = opZ (R ++ opI L l i d) ++ [((i : Int), ((i + 1 + d : Nat) : Int))] := by
  rw [opI, if_pos h, ← List.append_assoc, opZ_app]; rfl
theorem opP_of {L : List PS} {l t : Int} {i k : Nat} {u v : PS} (hu : psAt L i = u) (hv : psAt L k = v) (ht : (v.co - u.co + 360) % 360 = t) : opP L l i k = (decide (u.ln = l) && decide (v.ln = l) && inB t 170 190) := by
  unfold opP opB
  rw [hu, hv, ht]
set_option maxRecDepth 20000 in
set_option maxHeartbeats 6400000 in
theorem opposite_spec (A : Option Addr) (n c : Nat) (L : List PS) (l : Int) (w : World) (hs : SdsJ w w.heap.size A n L) (hm : n ≤ maxLen) :
    Calls Try.prog 33 #[.slice A n c, .int .i64 l] w (OpPost L l w) := by
  obtain rfl := hs.1
  have HS := Lib.hid hs
  obtain ⟨W0, hW0⟩ : ∃ W0, W0 = w.alloc (.cells #[] 25) := ⟨_, rfl⟩
  have HC0 : Hid (GpJ w (.slice (some ⟨w.heap.size, 0, none⟩) 0 0) [] W0) := by rw [hW0]; exact Lib.hid (gp_startJ (Below.refl _ _))
  have HB0 : Hid (Below w.heap.size w W0) := by rw [hW0]; exact Lib.hid (box1 (Below.refl _ _)).1
  have HS0 := Lib.hid (sds_atJ hs HB0.out)
  have HE0 := Lib.hid hW0
  clear hs hW0
  rcases h1 : pssB L with _ | _
  · have H1 := Lib.hid h1
    clear h1
    go_enter Try.func33, Try.ntmps33
    go_wp2_with fail
    rw [← HE0.out]
    refine (pgood_spec_v _ _ _ L _ H1.out _ HS0.out hm).mono ?_
    rintro e w1 ⟨rfl, hb⟩
    have HC1 := Lib.hid (HC0.out.next hb)
    clear hb
    go_wp2_with fail
    go_ret2
    exact op_no9 (op_1 H1.out) HC1.out
  have H1 := Lib.hid h1
  rcases h2 : inB l 1 999 with _ | _
  · have H2 := Lib.hid h2
    clear h1 h2
    go_enter Try.func33, Try.ntmps33
    go_wp2_with fail
    rw [← HE0.out]
    refine (pgood_spec_v _ _ _ L _ H1.out _ HS0.out hm).mono ?_
    rintro e w1 ⟨rfl, hb⟩
    have HC1 := Lib.hid (HC0.out.next hb)
    clear hb
    go_wp2_with fail
    refine (lineJ_spec _ _ H2.out _).mono ?_
    rintro e w' ⟨rfl, rfl⟩
    go_wp2_with fail
    go_ret2
    exact op_no9 (op_2 H2.out) HC1.out
  have H2 := Lib.hid h2
  have HG := Lib.hid (good11_of h1)
  have h12 := (good11_of h1).max
  have HK := Lib.hid (op_3 h1 h2)
  obtain ⟨i0, hi, hz0, hz1, hz2⟩ := info_parts infoInts
  have HI := Lib.hid (And.intro hi (And.intro hz0 (And.intro hz1 hz2)))
  clear h1 h2 hi hz0 hz1 hz2
  go_enter Try.func33, Try.ntmps33
  go_wp2_with fail
  rw [← HE0.out]
  refine (pgood_spec_v _ _ _ L _ H1.out _ HS0.out hm).mono ?_
  rintro e w1 ⟨rfl, hb⟩
  have HC1 := Lib.hid (HC0.out.next hb)
  clear hb
  go_wp2_with fail
  refine (lineJ_spec _ _ H2.out _).mono ?_
  rintro e w' ⟨rfl, rfl⟩
  go_wp2_with fail
  go_loopw [6, 7] (fun s i wr => ∃ (k : Nat) (v : Value), k ≤ L.length ∧ i = .int .i64 k ∧ s = v ∧ Hid (GpJ w v (opZ (opL L l k)) wr)) (fun _ i _ => L.length - (intOf i).toNat)
  case atStart => exact ⟨0, _, Nat.zero_le _, rfl, rfl, HC1⟩
  case round =>
    obtain ⟨i, v0, hi, rfl, hv0, hC⟩ := hrel
    have hv0' := hv0.symm
    clear hv0
    subst hv0'
    by_cases hlt : i < L.length
    · have HC2 : Hid (GpJ w v0 (opZ (opL L l i ++ opI L l i 0)) wr) := by rw [show opL L l i ++ opI L l i 0 = opL L l i from List.append_nil _]; exact hC
      clear hC
      go_wp2_with fail
      go_loopw [6, 8] (fun s q wr => ∃ (d : Nat) (v : Value), i + 1 + d ≤ L.length ∧ q = .int .i64 (i + 1 + d : Nat) ∧ s = v ∧ Hid (GpJ w v (opZ (opL L l i ++ opI L l i d)) wr)) (fun _ q _ => L.length - (intOf q).toNat)
      case atStart => exact ⟨0, _, by omega, by go_num, rfl, HC2⟩
      case round =>
        obtain ⟨d, v1, hd, rfl, hv1, hD⟩ := hrel
        have hv1' := hv1.symm
        clear hv1 HC2
        subst hv1'
        by_cases hlt2 : i + 1 + d < L.length
        · obtain ⟨G, hA, hIn⟩ := hD.out
          have HSN := Lib.hid (sds_atJ HS.out hA.2)
          obtain ⟨b, o, u, rfl, hbl, hL, c0, c1, c2, c3, c4, c5⟩ := HSN.out.2 i hlt
          obtain ⟨b', o', v, hA', hbl', hL', d0, d1, d2, d3, d4, d5⟩ := HSN.out.2 (i + 1 + d) hlt2
          obtain ⟨rfl, rfl⟩ : b = b' ∧ o = o' := by injection hA' with h; injection h with h h'; exact ⟨h, h'⟩
          have hu := psAt_at hL
          have hv := psAt_at hL'
          have g1 := HG.out.one i hlt
          have g2 := HG.out.one (i + 1 + d) hlt2
          rw [hu] at g1
          rw [hv] at g2
          have k1 := g1.c0
          have k2 := g1.c1
          have k3 := g2.c0
          have k4 := g2.c1
          obtain ⟨t, ht⟩ : ∃ t, (v.co - u.co + 360) % 360 = t := ⟨_, rfl⟩
          have HP := Lib.hid (opP_of (l := l) hu hv ht)
          have ht2 : Int.tmod (v.co - u.co + 360) 360 = t := by rw [Int.tmod_eq_emod_of_nonneg (by omega)]; exact ht
          have htb : 0 ≤ t ∧ t < 360 := by omega
          obtain ⟨t0, t1⟩ := htb
          have HT2 := Lib.hid ht2
          have HA := Lib.hid hA
          have HIn := Lib.hid hIn
          have hln := opI_len L l i d
          have hll := opL_len L l h12 i (by omega)
          obtain ⟨RR, hRR⟩ : ∃ RR, RR = opZ (opL L l i ++ opI L l i d) := ⟨_, rfl⟩
          have hRL : RR.length ≤ 200 := by rw [hRR, opZ_len, List.length_append]; omega
          have HRR := Lib.hid hRR
          rw [← hRR] at HA HIn hD
          clear hL hL' hA' g1 g2 ht hA hIn hRR hln hll c1 c2 c3 c4 d1 d2 d3 d4 hu hv
          obtain ⟨W3, rfl⟩ : ∃ W : World, W = wr := ⟨_, rfl⟩
          by_cases e1 : u.ln = l
          · by_cases e2 : v.ln = l
            · rcases e3 : inB t 170 190 with _ | _
              · have HPF : Hid (opP L l i (i + 1 + d) = false) := by unfold Hid; rw [HP.out]; simp [e1, e2, e3]
                have HX := Lib.hid (opI_skip (R := opL L l i) HPF.out)
                have hd1 : (u.ln == l) = true := beq_iff_eq.2 e1
                have hd2 : (v.ln == l) = true := beq_iff_eq.2 e2
                have H3 := Lib.hid e3
                clear e1 e2 e3
                go_wp2_with fail
                have lc0 := lcell (c5)
                have lc1 := lcell (d5)
                refine region_later (W := W3) (by kernel_rfl) (by kernel_rfl) (Below.refl _ _) ?_
                repeat (go_big_quiet_step ((fail)))
                refine wpQuiet_nil ?_
                intro W1 hW1
                have HL : Hid (Below W3.heap.size W3 W1) := by obtain ⟨x, rfl⟩ := hW1; exact Lib.hid x.below
                clear hW1 lc0 lc1
                have HD4 : Hid (GpJ w v1 (opZ (opL L l i ++ opI L l i (d + 1))) W1) := by unfold Hid; rw [HX.out, ← HRR.out]; exact hD.out.next HL.out
                have c0n := cell_next HL.out c0
                have d0n := cell_next HL.out d0
                try rw [HT2.out]
                clear c0 c5 d0 d5
                go_wp2_with fail
                refine (l1In_v _ _ _ _ H3.out _).mono ?_
                rintro e w' ⟨rfl, rfl⟩
                go_wp2_with fail
                go_roundw
                case rel => exact ⟨d + 1, _, by omega, by go_num, rfl, HD4⟩
                case measure => simp [intOf]; omega
              · have HPF : Hid (opP L l i (i + 1 + d) = true) := by unfold Hid; rw [HP.out]; simp [e1, e2, e3]
                have HX := Lib.hid (opI_more (R := opL L l i) HPF.out)
                have H3 := Lib.hid e3
                have hd1 : (u.ln == l) = true := beq_iff_eq.2 e1
                have hd2 : (v.ln == l) = true := beq_iff_eq.2 e2
                clear e1 e2 e3
                go_wp2_with fail
                have lc0 := lcell (c5)
                have lc1 := lcell (d5)
                refine region_later (W := W3) (by kernel_rfl) (by kernel_rfl) (Below.refl _ _) ?_
                repeat (go_big_quiet_step ((fail)))
                refine wpQuiet_nil ?_
                intro W1 hW1
                have HL : Hid (Below W3.heap.size W3 W1) := by obtain ⟨x, rfl⟩ := hW1; exact Lib.hid x.below
                clear hW1 lc0 lc1
                have HA1 := Lib.hid (HA.out.next HL.out)
                have HI1 : Hid (In W1 w.heap.size G RR) := Lib.hid ⟨HIn.out.1, HIn.out.2.1, fun k g p hg hp => ⟨(HIn.out.2.2 k g p hg hp).1, (HIn.out.2.2 k g p hg hp).2.next HL.out⟩⟩
                have c0n := cell_next HL.out c0
                have d0n := cell_next HL.out d0
                try rw [HT2.out]
                clear c0 c5 d0 d5
                go_wp2_with fail
                refine (l1In_v _ _ _ _ H3.out _).mono ?_
                rintro e w' ⟨rfl, rfl⟩
                go_wp2_with (at_builtin; go_loud (refine wpList_append_own _ rfl _ _ 45 rfl w.heap.size 25 i0 (.slice none 0 0) 1 24 Try.underlying45 HI.out.1 HI.out.2.1 HI.out.2.2.1 HI.out.2.2.2 rfl (by decide) _ _ _ rfl ((HA1.out.1.alloc _).alloc _) ⟨W1.heap.size + 1, 0, none⟩ 1 1 [.slice (some ⟨W1.heap.size, 0, none⟩) 2 2] rfl rfl (by have h := cell_one_new (W1.alloc (.cells #[.int .i64 (i : Int), .int .i64 ((i + 1 + d : Nat) : Int)] 3)) (.slice (some ⟨W1.heap.size, 0, none⟩) 2 2) 25; rw [World.size_alloc] at h; exact h) (by simp [Value.oneCell']) (by unfold maxLen; omega) (by omega) (by have := HA1.out.2.size; simp; omega) ?_; intro v' w5 hown' hgrow _; have HN := Lib.hid (GpJ.step (x := (i : Int)) (y := ((i + 1 + d : Nat) : Int)) HA1.out HI1.out hown' (by simp) hgrow); clear hown' hgrow))
                have HD4 : Hid (GpJ w v' (opZ (opL L l i ++ opI L l i (d + 1))) w5) := by unfold Hid; rw [HX.out, ← HRR.out]; exact HN.out
                clear HN
                go_roundw
                case rel => exact ⟨d + 1, _, by omega, by go_num, rfl, HD4⟩
                case measure => simp [intOf]; omega
            · have e3 : inB t 170 190 = inB t 170 190 := rfl
              have HPF : Hid (opP L l i (i + 1 + d) = false) := by unfold Hid; rw [HP.out]; simp [e1, e2]
              have HX := Lib.hid (opI_skip (R := opL L l i) HPF.out)
              have hd1 : (u.ln == l) = true := beq_iff_eq.2 e1
              have hd2 : (v.ln == l) = false := beq_eq_false_iff_ne.2 e2
              clear e1 e2 e3
              go_wp2_with fail
              have lc0 := lcell (c5)
              have lc1 := lcell (d5)
              refine region_later (W := W3) (by kernel_rfl) (by kernel_rfl) (Below.refl _ _) ?_
              repeat (go_big_quiet_step ((fail)))
              refine wpQuiet_nil ?_
              intro W1 hW1
              have HL : Hid (Below W3.heap.size W3 W1) := by obtain ⟨x, rfl⟩ := hW1; exact Lib.hid x.below
              clear hW1 lc0 lc1
              have HD4 : Hid (GpJ w v1 (opZ (opL L l i ++ opI L l i (d + 1))) W1) := by unfold Hid; rw [HX.out, ← HRR.out]; exact hD.out.next HL.out
              have c0n := cell_next HL.out c0
              have d0n := cell_next HL.out d0
              try rw [HT2.out]
              clear c0 c5 d0 d5
              go_wp2_with fail
              go_roundw
              case rel => exact ⟨d + 1, _, by omega, by go_num, rfl, HD4⟩
              case measure => simp [intOf]; omega
          · have e3 : inB t 170 190 = inB t 170 190 := rfl
            have e2 : True := trivial
            have HPF : Hid (opP L l i (i + 1 + d) = false) := by unfold Hid; rw [HP.out]; simp [e1]
            have HX := Lib.hid (opI_skip (R := opL L l i) HPF.out)
            have hd1 : (u.ln == l) = false := beq_eq_false_iff_ne.2 e1
            clear e1 e2 e3
            go_wp2_with fail
            have lc0 := lcell (c5)
            have lc1 := lcell (d5)
            refine region_later (W := W3) (by kernel_rfl) (by kernel_rfl) (Below.refl _ _) ?_
            repeat (go_big_quiet_step ((fail)))
            refine wpQuiet_nil ?_
            intro W1 hW1
            have HL : Hid (Below W3.heap.size W3 W1) := by obtain ⟨x, rfl⟩ := hW1; exact Lib.hid x.below
            clear hW1 lc0 lc1
            have HD4 : Hid (GpJ w v1 (opZ (opL L l i ++ opI L l i (d + 1))) W1) := by unfold Hid; rw [HX.out, ← HRR.out]; exact hD.out.next HL.out
            have c0n := cell_next HL.out c0
            have d0n := cell_next HL.out d0
            try rw [HT2.out]
            clear c0 c5 d0 d5
            go_wp2_with fail
            go_roundw
            case rel => exact ⟨d + 1, _, by omega, by go_num, rfl, HD4⟩
            case measure => simp [intOf]; omega
        · obtain rfl : d = L.length - i - 1 := by omega
          have HC3 : Hid (GpJ w v1 (opZ (opL L l (i + 1))) wr) := hD
          go_wp2_with fail
          go_roundw
          case rel => exact ⟨i + 1, _, by omega, by go_num, rfl, HC3⟩
          case measure => simp [intOf]; omega
    · obtain rfl : i = L.length := by omega
      have HQ := Lib.hid (op_yes9 HK.out hC.out)
      go_wp2_with fail
      go_ret2
      exact HQ.out
end Go.Proofs.Ytllfmjnniagjfaa
