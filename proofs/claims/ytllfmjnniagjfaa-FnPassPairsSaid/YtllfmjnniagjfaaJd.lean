/-
  The longest break, the program: contracts of the closure of impl.LongestBreak, impl.mostOf over pairs of numbers, LongestBreak over this translation. Conditions: stated at each theorem.
-/
import Derived.Test.YtllfmjnniagjfaaJa
import Derived.Test.YtllfmjnniagjfaaTc
import Derived.Test.YtllfmjnniagjfaaMid
import Derived.Deep.DeepCutAuto
namespace Go.Proofs.Ytllfmjnniagjfaa
open Go.RowKit
set_option linter.unusedVariables false

theorem SdsJ.tail {w : World} {B b o n : Nat} {L : List PS} (h : SdsJ w B (some ⟨b, o, none⟩) n L) : SdsJ w B (some ⟨b, o + 6, none⟩) (n - 1) (L.drop 1) :=
  ⟨by have := h.1; simp; omega, fun k hk => by
    obtain ⟨b', o', v, hA, hlt, hL, h5⟩ := h.2 (k + 1) (by omega)
    obtain ⟨rfl, rfl⟩ : b = b' ∧ o = o' := by injection hA with h; injection h with h h'; exact ⟨h, h'⟩
    refine ⟨b, o + 6, v, rfl, hlt, by rw [List.getElem?_drop, Nat.add_comm]; exact hL, ?_⟩
    rw [show o + 6 + k * 6 = o + (k + 1) * 6 by omega]
    exact h5⟩
/-! ### Breaks as pairs -/
def bkL (L : List PS) : Nat → List (Int × Int)
  | 0 => []
  | k + 1 => bkL L k ++ [((psAt L k).en, (psAt L (k + 1)).bg)]
theorem bkL_len (L : List PS) : ∀ k, (bkL L k).length = k
  | 0 => rfl
  | k + 1 => by rw [bkL, List.length_append, bkL_len L k]; rfl
theorem bkL_at (L : List PS) : ∀ {n k : Nat}, k < n → (bkL L n)[k]? = some ((psAt L k).en, (psAt L (k + 1)).bg)
  | 0, k, h => absurd h (by omega)
  | n + 1, k, h => by
    rw [bkL]
    rcases Nat.lt_or_ge k n with a | a
    · rw [List.getElem?_append_left (by rw [bkL_len]; exact a)]
      exact bkL_at L a
    · obtain rfl : k = n := by omega
      rw [List.getElem?_append_right (by rw [bkL_len]; exact Nat.le_refl _), bkL_len, Nat.sub_self]
      rfl
def dfP (M : List (Int × Int)) (k : Nat) : Int := (M.getD k (0, 0)).2 - (M.getD k (0, 0)).1
theorem dfP_at {M : List (Int × Int)} {k : Nat} {x y : Int} (h : M[k]? = some (x, y)) : dfP M k = y - x := by unfold dfP; rw [List.getD_eq_getElem?_getD, h]; rfl
def mbK (M : List (Int × Int)) : Nat → Nat
  | 0 => 0
  | k + 1 => if dfP M (mbK M k) < dfP M (k + 1) then k + 1 else mbK M k
theorem mbK_le (M : List (Int × Int)) : ∀ k, mbK M k ≤ k
  | 0 => Nat.le_refl _
  | k + 1 => by
    have := mbK_le M k
    rw [mbK]
    split <;> omega
theorem dfP_br {L : List PS} {n k : Nat} (h : k < n) : dfP (bkL L n) k = brI L (k + 1) := by
  rw [dfP_at (bkL_at L h)]; rfl
theorem lbK_mb {L : List PS} {n : Nat} : ∀ {k : Nat}, k < n → lbK L k = mbK (bkL L n) k + 1
  | 0, _ => rfl
  | k + 1, h => by
    have ih := lbK_mb (L := L) (n := n) (k := k) (by omega)
    have hle := mbK_le (bkL L n) k
    rw [lbK, mbK, ih, dfP_br (L := L) (n := n) (k := mbK (bkL L n) k) (by omega), dfP_br (L := L) h]
    split <;> rfl
theorem mb_hit {M : List (Int × Int)} {k m : Nat} (hm : m = mbK M (k - 1)) (hk : 0 < k) (h : dfP M m < dfP M k) : k = mbK M (k + 1 - 1) := by
  obtain ⟨j, rfl⟩ : ∃ j, k = j + 1 := ⟨k - 1, by omega⟩
  rw [Nat.add_sub_cancel] at hm ⊢
  rw [mbK, ← hm, if_pos h]
theorem mb_miss {M : List (Int × Int)} {k m : Nat} (hm : m = mbK M (k - 1)) (h : ¬ dfP M m < dfP M k) : m = mbK M (k + 1 - 1) := by
  rcases Nat.eq_zero_or_pos k with rfl | hk
  · exact hm
  · obtain ⟨j, rfl⟩ : ∃ j, k = j + 1 := ⟨k - 1, by omega⟩
    rw [Nat.add_sub_cancel] at hm ⊢
    rw [mbK, ← hm, if_neg h]
/-- Numbers that do not overflow. -/
def SmB (M : List (Int × Int)) : Prop := ∀ (k : Nat) (x y : Int), M[k]? = some (x, y) → (-100000 ≤ x ∧ x ≤ 100000) ∧ (-100000 ≤ y ∧ y ≤ 100000)
set_option maxRecDepth 20000 in
set_option maxHeartbeats 1600000 in
theorem more_brk (x y x' y' : Int) (r : Bool) (hr : decide (y' - x' < y - x) = r) (w : World) (h1 : -100000 ≤ x ∧ x ≤ 100000) (h2 : -100000 ≤ y ∧ y ≤ 100000) (h3 : -100000 ≤ x' ∧ x' ≤ 100000) (h4 : -100000 ≤ y' ∧ y' ≤ 100000) :
    Calls Try.prog 87 #[.agg #[.int .i64 x, .int .i64 y], .agg #[.int .i64 x', .int .i64 y']] w fun e w' => e = .returned (.bool r) ∧ Below w.heap.size w w' := by
  have HR := Lib.hid hr
  clear hr
  go_enter Try.func87, Try.ntmps87
  go_wp2_with fail
  go_ret
  exact ⟨ret_bool HR.out, ((Below.refl _ _).alloc (Nat.le_refl _) _).alloc (by simp) _⟩
set_option maxRecDepth 20000 in
set_option maxHeartbeats 3200000 in
theorem mostB_impl (A : Option Addr) (n c : Nat) (M : List (Int × Int)) (x : Nat) (hx : mbK M (M.length - 1) = x) (w : World) (hs : Spots w w.heap.size A n M) (hn : n ≤ 100) (hg : SmB M) (h0 : 0 < M.length) :
    Calls Try.prog 86 #[.slice A n c, .func (.func 87) #[] #[]] w fun e w' => e = .returned (.int .i64 x) ∧ Below w.heap.size w w' := by
  obtain rfl := hs.1
  have HS := Lib.hid hs
  have HG := Lib.hid hg
  have HXX := Lib.hid hx
  clear hs hg hx
  go_enter Try.func86, Try.ntmps86
  go_wp2_with fail
  go_loopw [5, 10] (fun q i wr => ∃ k m : Nat, k ≤ M.length ∧ m < M.length ∧ i = .int .i64 k ∧ q = .int .i64 m ∧ Hid (m = mbK M (k - 1)) ∧ Hid (k = 0 → m = 0) ∧ Hid (Below w.heap.size w wr)) (fun _ i _ => M.length - (intOf i).toNat)
  case atStart => exact ⟨0, 0, Nat.zero_le _, h0, rfl, rfl, Lib.hid rfl, Lib.hid (fun _ => rfl), Lib.hid (Below.refl _ _)⟩
  case round =>
    obtain ⟨k, m, hk, hml, rfl, rfl, hM, hM0, hB⟩ := hrel
    by_cases hlt : k < M.length
    · obtain ⟨b, o, x1, y1, rfl, hbl, hL, c0, c1⟩ := (spots_at HS.out hB.out).2 k hlt
      obtain ⟨b', o', x2, y2, hA', _, hL', d0, d1⟩ := (spots_at HS.out hB.out).2 m hml
      obtain ⟨rfl, rfl⟩ : b = b' ∧ o = o' := by injection hA' with h; injection h with h h'; exact ⟨h, h'⟩
      obtain ⟨q1, q2⟩ := HG.out k x1 y1 hL
      obtain ⟨q3, q4⟩ := HG.out m x2 y2 hL'
      have HQ := Lib.hid (And.intro q1 (And.intro q2 (And.intro q3 q4)))
      obtain ⟨r, hr⟩ : ∃ r, decide (y2 - x2 < y1 - x1) = r := ⟨_, rfl⟩
      have HR := Lib.hid hr
      have HN : Hid ((r = true → k = mbK M (k + 1 - 1)) ∧ (r = false → m = mbK M (k + 1 - 1))) := by
        refine Lib.hid ⟨fun h => ?_, fun h => ?_⟩
        · rcases Nat.eq_zero_or_pos k with h0 | h0
          · exfalso
            have e := hM0.out h0
            have e2 : (x2, y2) = (x1, y1) := by rw [h0] at hL; rw [e] at hL'; exact Option.some.inj (hL'.symm.trans hL)
            obtain ⟨rfl, rfl⟩ := Prod.mk.inj e2
            rw [h] at hr
            exact absurd (of_decide_eq_true hr) (Int.lt_irrefl _)
          · refine mb_hit hM.out h0 ?_
            rw [dfP_at hL, dfP_at hL']
            exact of_decide_eq_true (hr.trans h)
        · refine mb_miss hM.out ?_
          rw [dfP_at hL, dfP_at hL']
          exact of_decide_eq_false (hr.trans h)
      obtain ⟨W0, hW0⟩ : ∃ W0, W0 = wr.alloc (.cells #[.int .i64 x1, .int .i64 y1] 93) := ⟨_, rfl⟩
      have HW : Hid (Below wr.heap.size wr W0 ∧ Has W0 wr.heap.size [.int .i64 x1, .int .i64 y1]) := by rw [hW0]; exact box1 (Below.refl _ _)
      have HB0 := Lib.hid (bthen hB.out HW.out.1 hB.out.size)
      have a0 := HW.out.2.at_ 0 _ rfl
      have a1 := HW.out.2.at_ 1 _ rfl
      have e0 := cell_next HW.out.1 d0
      have e1 := cell_next HW.out.1 d1
      have HE := Lib.hid hW0
      clear hW0 hL hL' hA' hr d0 d1 q1 q2 q3 q4
      go_upto_region 5 with fail
      rw [← HE.out]
      clear c0 c1
      have lc0 := lcell (a0)
      have lc1 := lcell (a1)
      have lc2 := lcell (e0)
      have lc3 := lcell (e1)
      refine region_later (W := W0) (by kernel_rfl) (by kernel_rfl) (Below.refl _ _) ?_
      repeat (go_big_quiet_step (((go_at_call 87; exact later_call (more_brk x1 y1 x2 y2 r HR.out _ HQ.out.1 HQ.out.2.1 HQ.out.2.2.1 HQ.out.2.2.2)))))
      refine wpQuiet_nil ?_
      intro W1 hW1
      have HL : Hid (Below W0.heap.size W0 W1) := by obtain ⟨x, rfl⟩ := hW1; exact Lib.hid x.below
      clear hW1 lc0 lc1 lc2 lc3
      have HB2 := Lib.hid (bthen HB0.out HL.out HB0.out.size)
      clear a0 a1 e0 e1
      rcases r with _ | _
      · go_wp2_with fail
        go_roundw
        case rel => exact ⟨k + 1, m, by omega, hml, by go_num, rfl, Lib.hid (HN.out.2 rfl), Lib.hid (fun h => by omega), HB2⟩
        case measure => simp [intOf]; omega
      · go_wp2_with fail
        go_roundw
        case rel => exact ⟨k + 1, k, by omega, hlt, by go_num, rfl, Lib.hid (HN.out.1 rfl), Lib.hid (fun h => by omega), HB2⟩
        case measure => simp [intOf]; omega
    · obtain rfl : k = M.length := by omega
      have HR : Hid ((m : Int) = x) := by unfold Hid; rw [hM.out, HXX.out]
      go_wp2_with fail
      go_ret
      exact ⟨ret_int HR.out, hB.out⟩
theorem two_newJ (w : World) (x y : Value) (T : TypeId) : ∀ (j : Nat) (u : Value), [x, y][j]? = some u → (w.alloc (.cells #[x, y] T)).cell? ((⟨w.heap.size, 0, none⟩ : Addr).add j) = some u := by
  intro j u hu
  have h := Has.new w #[x, y] T
  rw [add_none, Nat.zero_add]
  exact h.at_ j u hu
theorem infoB2 : (Try.prog.info? 93).map (fun i => (i.zero, i.size, i.bytes)) = some (some (.agg #[.int .i64 0, .int .i64 0]), 2, 16) := by kernel_rfl
set_option maxRecDepth 20000 in
set_option maxHeartbeats 3200000 in
theorem longest_impl (A : Option Addr) (n c : Nat) (L : List PS) (w : World) (hs : SdsJ w w.heap.size A n L) (hm : n ≤ maxLen) (hcap : n ≤ c) :
    Calls Try.prog 36 #[.slice A n c] w (Num3J (lbX L) (lbY L) (lbG L) w) := by
  obtain rfl := hs.1
  have HS := Lib.hid hs
  clear hs
  rcases h1 : pssB L with _ | _
  · have H1 := Lib.hid h1
    clear h1
    go_enter Try.func36, Try.ntmps36
    go_wp2_with fail
    refine (pss_impl_v _ _ _ L _ H1.out _ HS.out hm).mono ?_
    rintro e w1 ⟨rfl, hb⟩
    have HB1 := Lib.hid hb
    clear hb
    go_wp2_with fail
    go_ret3
    exact num3J_no (lb_no (by unfold lbG; rw [H1.out]; rfl)) HB1.out
  have H1 := Lib.hid h1
  by_cases h2 : (L.length : Int) < 2
  · have HN : Hid (lbG L = false) := by unfold Hid lbG; rw [decide_eq_false (by omega), Bool.and_false]
    clear h1
    go_enter Try.func36, Try.ntmps36
    go_wp2_with fail
    refine (pss_impl_v _ _ _ L _ H1.out _ HS.out hm).mono ?_
    rintro e w1 ⟨rfl, hb⟩
    have HB1 := Lib.hid hb
    clear hb
    go_wp2_with fail
    go_ret3
    exact num3J_no (lb_no HN.out) HB1.out
  have HG := Lib.hid (good11_of h1)
  have h12 := (good11_of h1).max
  have HP : Hid (lbX L = (psAt L (lbK L (L.length - 2) - 1)).en ∧ lbY L = (psAt L (lbK L (L.length - 2))).bg ∧ lbG L = true) := lb_yes (by unfold lbG; rw [h1, decide_eq_true (by omega)]; rfl)
  obtain ⟨i0, hi, hz0, hz1, hz2⟩ := info_parts infoB2
  have HI := Lib.hid (And.intro hi (And.intro hz0 (And.intro hz1 hz2)))
  clear h1 hi hz0 hz1 hz2
  obtain ⟨b, o, v, rfl, _⟩ := HS.out.2 0 (by omega)
  go_enter Try.func36, Try.ntmps36
  go_wp2_with fail
  refine (pss_impl_v _ _ _ L _ H1.out _ HS.out hm).mono ?_
  rintro e w1 ⟨rfl, hb⟩
  have HC0 : Hid (Col w 93 2 (.slice (some ⟨w1.heap.size, 0, none⟩) 0 0) 0 (cells2 (bkL L 0)) (w1.alloc (.cells #[] 93))) := Lib.hid (col_start 93 2 hb)
  clear hb
  go_wp2_with fail
  obtain ⟨AA, hAA, HT⟩ : ∃ AA : Option Addr, (some ⟨b, o + 6, none⟩ : Option Addr) = AA ∧ Hid (SdsJ w w.heap.size AA (L.length - 1) (L.drop 1)) := ⟨_, rfl, Lib.hid HS.out.tail⟩
  rw [hAA]
  clear hAA
  go_loopw [5, 21] (fun s i wr => ∃ (k : Nat) (v : Value), k + 1 ≤ L.length ∧ i = .int .i64 k ∧ s = v ∧ Hid (Col w 93 2 v k (cells2 (bkL L k)) wr)) (fun _ i _ => L.length - (intOf i).toNat)
  case atStart => exact ⟨0, _, by omega, rfl, rfl, HC0⟩
  case round =>
    obtain ⟨k, v0, hk, rfl, hv0, hC⟩ := hrel
    have hv0' := hv0.symm
    clear hv0 HC0
    subst hv0'
    by_cases hlt : k + 1 < L.length
    · obtain ⟨b1, o1, u, rfl, hbl1, hL1, d0, d1, d2, d3, d4, d5⟩ := (sds_atJ HT.out hC.out.2).2 k (by omega)
      obtain ⟨b', o', v, hA', hbl, hL, c0, c1, c2, c3, c4, c5⟩ := (sds_atJ HS.out hC.out.2).2 k (by omega)
      obtain ⟨rfl, rfl⟩ : b = b' ∧ o = o' := by injection hA' with h; injection h with h h'; exact ⟨h, h'⟩
      rw [List.getElem?_drop, Nat.add_comm] at hL1
      have HU := Lib.hid (And.intro (psAt_at hL) (psAt_at hL1))
      obtain ⟨X, hX⟩ : ∃ W, W = wr.alloc (.cells #[.int .i64 u.ln, .int .i64 u.bg, .int .i64 u.en, .int .i64 u.pi, .int .i64 u.bd, .int .i64 u.co] 40) := ⟨_, rfl⟩
      have HX9 : Hid (Below wr.heap.size wr X ∧ Has X wr.heap.size [.int .i64 u.ln, .int .i64 u.bg, .int .i64 u.en, .int .i64 u.pi, .int .i64 u.bd, .int .i64 u.co]) := by rw [hX]; exact box1 (Below.refl _ _)
      have HCX := Lib.hid (hC.out.next HX9.out.1)
      have HE := Lib.hid hX
      have a1 := HX9.out.2.at_ 1 _ rfl
      have e2 := cell_next HX9.out.1 c2
      clear hL hL1 hA' hX c0 c1 c2 c3 c4 c5
      go_upto_region 7 with fail
      rw [← HE.out]
      clear d0 d1 d2 d3 d4 d5
      have lc0 := lcell (a1)
      have lc1 := lcell (e2)
      refine region_mid (W := X) 9 (by kernel_rfl) (by kernel_rfl) (Below.refl _ _) (fun d _ _ _ _ h => by cases d <;> exact h) ?_
      simp only [List.take_succ_cons, List.take_zero, List.drop_succ_cons, List.drop_zero]
      repeat (go_big_quiet_step (fail))
      refine wpQuiet_nil ?_
      intro W3 hW1
      have HL : Hid (Below X.heap.size X W3) := by obtain ⟨x, rfl⟩ := hW1; exact Lib.hid x.below
      clear hW1 lc0 lc1
      refine wpOp_step rfl (fun K hK => ?_)
      rw [if_pos (by rfl)]
      go_simp
      refine hK _ _ ⟨⟨⟨_, HL.out.alloc HL.out.size _⟩, rfl⟩, ?_⟩
      clear hK K
      have HR3 := Lib.hid (HCX.out.next HL.out)
      clear a1 e2
      refine wpList_append_own _ rfl _ _ 92 rfl w.heap.size 93 i0 (.agg #[.int .i64 0, .int .i64 0]) 2 16 Try.underlying92 HI.out.1 HI.out.2.1 HI.out.2.2.1 HI.out.2.2.2 rfl (by decide) _ _ _ rfl (HR3.out.1.alloc _) ⟨W3.heap.size, 0, none⟩ 1 1 [.int .i64 v.en, .int .i64 u.bg] rfl rfl (two_newJ _ _ _ _) (by simp [Value.oneCell']) (by unfold maxLen; omega) (by omega) (by have := HR3.out.2.size; simp; omega) ?_
      intro v' w5 hown' hgrow _
      have HN := Lib.hid (HR3.out.step hown' hgrow)
      clear hown' hgrow
      have hn3 := HN.out
      rw [← cells2_snoc] at hn3
      have HN3 : Hid (Col w 93 2 v' (k + 1) (cells2 (bkL L (k + 1))) w5) := by unfold Hid; rw [bkL, HU.out.1, HU.out.2]; exact hn3
      clear hn3 HN
      go_wp2_with fail
      go_roundw
      case rel => exact ⟨k + 1, _, by omega, by go_num, rfl, HN3⟩
      case measure => simp [intOf]; omega
    · obtain ⟨j, hj⟩ : ∃ j, L.length = j + 2 := ⟨L.length - 2, by omega⟩
      obtain rfl : k = j + 1 := by omega
      obtain ⟨A2, c2, hv2⟩ := own_slice hC.out.1
      subst hv2
      have HB1 := Lib.hid hC.out.2
      have HSB := Lib.hid ((own2_of_row hC.out.1 (bkL_len L (j + 1))).spots (Nat.le_refl _))
      have HMB : Hid (SmB (bkL L (j + 1))) := by
        intro k x y h
        have hk := (List.getElem?_eq_some_iff.1 h).1
        rw [bkL_len] at hk
        rw [bkL_at L hk] at h
        obtain ⟨rfl, rfl⟩ := Prod.mk.inj (Option.some.inj h)
        have g1 := HG.out.one k (by omega)
        have g2 := HG.out.one (k + 1) (by omega)
        have := g1.b0
        have := g1.be
        have := g1.e1
        have := g2.b0
        have := g2.be
        have := g2.e1
        omega
      obtain ⟨m, hmm⟩ : ∃ m, mbK (bkL L (j + 1)) j = m := ⟨_, rfl⟩
      have hml : m ≤ j := by rw [← hmm]; exact mbK_le _ _
      have HM : Hid (mbK (bkL L (j + 1)) ((bkL L (j + 1)).length - 1) = m) := by rw [bkL_len, Nat.add_sub_cancel]; exact Lib.hid hmm
      have HQ : Hid (lbX L = (psAt L m).en ∧ lbY L = (psAt L (m + 1)).bg ∧ lbG L = true) := by
        have h := HP.out
        rw [hj, Nat.add_sub_cancel, lbK_mb (L := L) (n := j + 1) (k := j) (by omega), hmm, Nat.add_sub_cancel] at h
        exact Lib.hid h
      have HCM := Lib.hid (mostB_impl A2 (j + 1) c2 (bkL L (j + 1)) m HM.out wr HSB.out (by omega) HMB.out (by rw [bkL_len]; omega))
      have HZ : Hid ((bkL L (j + 1))[m]? = some ((psAt L m).en, (psAt L (m + 1)).bg)) := Lib.hid (bkL_at L (by omega))
      clear hC hmm
      go_wp2_with fail
      refine HCM.out.mono ?_
      rintro e W4 ⟨rfl, hb⟩
      have HB4 := Lib.hid (bthen HB1.out hb HB1.out.size)
      obtain ⟨b2, o2, x2, y2, rfl, _, hL2, e0, e1⟩ := (spots_at HSB.out hb).2 m (by omega)
      obtain ⟨hx2, hy2⟩ := Prod.mk.inj (Option.some.inj (HZ.out.symm.trans hL2))
      have HQ2 : Hid (lbX L = x2 ∧ lbY L = y2 ∧ lbG L = true) := by rw [← hx2, ← hy2]; exact HQ
      clear hb hL2 hx2 hy2 HCM
      go_wp2_with fail
      have lc0 := lcell (e0)
      have lc1 := lcell (e1)
      refine region_later (W := W4) (by kernel_rfl) (by kernel_rfl) (Below.refl _ _) ?_
      repeat (go_big_quiet_step ((fail)))
      refine wpQuiet_nil ?_
      intro W5 hW1
      have HL : Hid (Below W4.heap.size W4 W5) := by obtain ⟨x, rfl⟩ := hW1; exact Lib.hid x.below
      clear hW1 lc0 lc1
      have HB5 := Lib.hid (bthen HB4.out HL.out HB4.out.size)
      clear e0 e1
      go_wp2_with fail
      go_ret3
      exact num3J_is HQ2.out HB5.out
end Go.Proofs.Ytllfmjnniagjfaa
