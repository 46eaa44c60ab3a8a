/-
  Sailed lines and lines to repeat, the law's model: contracts of spec.SailedLines, LinesToRepeat over this translation. Conditions: stated at each theorem.
-/
import Derived.Test.YtllfmjnniagjfaaJt
namespace Go.Proofs.Ytllfmjnniagjfaa
open Go.RowKit
set_option linter.unusedVariables false

theorem one_newJ (w : World) (x : Value) (T : TypeId) : ∀ (j : Nat) (u : Value), [x][j]? = some u → (w.alloc (.cells #[x] T)).cell? ((⟨w.heap.size, 0, none⟩ : Addr).add j) = some u := by
  intro j u hu
  have h := Has.new w #[x] T
  rw [add_none, Nat.zero_add]
  exact h.at_ j u hu
theorem insL_in {xs : List Int} {x : Int} (hs : xs.Pairwise (· < ·)) (h : x ∈ xs) : insL xs x = xs := by
  obtain ⟨i, hi⟩ := List.mem_iff_getElem?.1 h
  refine insL_hit (i := i) (fun p y hp hlt => ?_) hi
  obtain ⟨a1, rfl⟩ := List.getElem?_eq_some_iff.1 hp
  obtain ⟨a2, rfl⟩ := List.getElem?_eq_some_iff.1 hi
  exact (List.pairwise_iff_getElem.1 hs) p i a1 a2 hlt
/-! ### SailedLines -/
def slR (L : List PS) : List Int := if pssB L then sdL L L.length else []
def SlPost (L : List PS) (w : World) : Ending → World → Prop := IntsPost (slR L) (fun j => (slR L).getD j 0) (pssB L) w
theorem sl_no {L : List PS} {w w' : World} {v : Value} (h : pssB L = false) (hc : Col w 3 1 v 0 [] w') : SlPost L w (.returned (.tuple #[v, .bool false])) w' := by
  unfold SlPost slR
  rw [h]
  exact ints_of_col hc rfl
theorem sl_yes {L : List PS} {w w' : World} {v : Value} {m : Nat} (h : pssB L = true) (hm : m = (sdL L L.length).length) (hc : Col w 3 1 v m (ivs (sdL L L.length)) w') : SlPost L w (.returned (.tuple #[v, .bool true])) w' := by
  unfold SlPost slR
  rw [h, if_pos rfl]
  exact ints_of_col hc hm.symm
theorem sdL_skip {L : List PS} {k : Nat} {v : PS} (h : L[k]? = some v) (hb : sailB L v.ln = false) : sdL L (k + 1) = sdL L k := by
  rw [sdL, psAt_at h, hb]; simp
theorem sdL_twice {L : List PS} {k : Nat} {v : PS} (h : L[k]? = some v) (hb : sailB L v.ln = true) (hm : v.ln ∈ sdL L k) : sdL L (k + 1) = sdL L k := by
  rw [sdL, psAt_at h, if_pos hb, insL_in (sdL_sorted L k) hm]
theorem sdL_more {L : List PS} {k : Nat} {v : PS} (h : L[k]? = some v) (hb : sailB L v.ln = true) : sdL L (k + 1) = insL (sdL L k) v.ln := by
  rw [sdL, psAt_at h, if_pos hb]
theorem col_lenJ {w wr : World} {v : Value} {n : Nat} {xs : List Int} (h : Col w 3 1 v n (ivs xs) wr) : n = xs.length := by
  have := h.1.1
  rw [ivs_len] at this
  omega
set_option maxRecDepth 20000 in
set_option maxHeartbeats 3200000 in
theorem sailed_spec (A : Option Addr) (n c : Nat) (L : List PS) (w : World) (hs : SdsJ w w.heap.size A n L) (hm : n ≤ maxLen) :
    Calls Try.prog 21 #[.slice A n c] w (SlPost L w) := by
  obtain rfl := hs.1
  have HS := Lib.hid hs
  obtain ⟨W0, hW0⟩ : ∃ W0, W0 = w.alloc (.cells #[] 3) := ⟨_, rfl⟩
  have HC0 : Hid (Col w 3 1 (.slice (some ⟨w.heap.size, 0, none⟩) 0 0) 0 (ivs []) W0) := by rw [hW0]; exact Lib.hid (col_start 3 1 (Below.refl _ _))
  have HS0 := Lib.hid (sds_atJ hs HC0.out.2)
  have HE0 := Lib.hid hW0
  clear hs hW0
  rcases h1 : pssB L with _ | _
  · have H1 := Lib.hid h1
    clear h1
    go_enter Try.func21, Try.ntmps21
    go_wp2_with fail
    rw [← HE0.out]
    refine (pgood_spec_v _ _ _ L _ H1.out _ HS0.out hm).mono ?_
    rintro e w1 ⟨rfl, hb⟩
    have HC1 := Lib.hid (HC0.out.next hb)
    clear hb
    go_wp2_with fail
    go_ret2
    exact sl_no H1.out HC1.out
  have H1 := Lib.hid h1
  have HG := Lib.hid (good11_of h1)
  have h12 := (good11_of h1).max
  clear h1
  go_enter Try.func21, Try.ntmps21
  go_wp2_with fail
  rw [← HE0.out]
  refine (pgood_spec_v _ _ _ L _ H1.out _ HS0.out hm).mono ?_
  rintro e w1 ⟨rfl, hb⟩
  have HC1 : Hid (Col w 3 1 (.slice (some ⟨w.heap.size, 0, none⟩) 0 0) 0 (ivs (sdL L 0)) w1) := Lib.hid (HC0.out.next hb)
  clear hb
  go_wp2_with fail
  go_loopw [4, 5] (fun s i wr => ∃ (k m g C : Nat), k ≤ L.length ∧ m ≤ k ∧ i = .int .i64 k ∧ s = .slice (some ⟨g, 0, none⟩) m C ∧ Hid (Col w 3 1 (.slice (some ⟨g, 0, none⟩) m C) m (ivs (sdL L k)) wr)) (fun _ i _ => L.length - (intOf i).toNat)
  case atStart => exact ⟨0, 0, _, 0, Nat.zero_le _, Nat.le_refl _, rfl, rfl, HC1⟩
  case round =>
    obtain ⟨k, m, g, C, hk, hmk, rfl, rfl, hC⟩ := hrel
    by_cases hlt : k < L.length
    · obtain ⟨b, o, v, rfl, hbl, hL, c0, c1, c2, c3, c4, c5⟩ := (sds_atJ HS.out hC.out.2).2 k hlt
      have HK := Lib.hid hL
      obtain ⟨x, hx⟩ : ∃ x, v.ln = x := ⟨_, rfl⟩
      rw [hx] at c0
      have HXV := Lib.hid hx
      clear hL hx
      rcases hv : sailB L x with _ | _
      · have HV := Lib.hid hv
        have HT := Lib.hid (sdL_skip HK.out (show sailB L v.ln = false by rw [HXV.out]; exact hv))
        clear hv
        go_wp2_with fail
        refine (sail_spec _ _ _ L x _ HV.out _ (sds_atJ HS.out hC.out.2) hm HG.out).mono ?_
        rintro e w3 ⟨rfl, hb⟩
        have HC3 : Hid (Col w 3 1 (.slice (some ⟨g, 0, none⟩) m C) m (ivs (sdL L (k + 1))) w3) := by unfold Hid; rw [HT.out]; exact hC.out.next hb
        clear hb c0 c1 c2 c3 c4 c5
        go_wp2_with fail
        go_roundw
        case rel => exact ⟨k + 1, m, g, C, by omega, by omega, by go_num, rfl, HC3⟩
        case measure => simp [intOf]; omega
      have HV := Lib.hid hv
      have HV2 : Hid (sailB L v.ln = true) := by unfold Hid; rw [HXV.out]; exact hv
      clear hv
      have HML := Lib.hid (col_lenJ hC.out)
      by_cases hmem : x ∈ sdL L k
      · have HT := Lib.hid (sdL_twice HK.out HV2.out (by rw [HXV.out]; exact hmem))
        have HMM : Hid (decide (x ∈ sdL L k) = true) := Lib.hid (decide_eq_true hmem)
        clear hmem
        go_wp2_with fail
        refine (sail_spec _ _ _ L x _ HV.out _ (sds_atJ HS.out hC.out.2) hm HG.out).mono ?_
        rintro e w3 ⟨rfl, hb⟩
        have HC3 := Lib.hid (hC.out.next hb)
        clear hb c0 c1 c2 c3 c4 c5
        go_wp2_with fail
        refine (hasJ_spec _ _ _ _ (sdL L k) x _ HMM.out _ HC3.out.1 HML.out.symm (by omega)).mono ?_
        rintro e w4 ⟨rfl, hb⟩
        have HC4 : Hid (Col w 3 1 (.slice (some ⟨g, 0, none⟩) m C) m (ivs (sdL L (k + 1))) w4) := by unfold Hid; rw [HT.out]; exact HC3.out.next hb
        clear hb
        go_wp2_with fail
        go_roundw
        case rel => exact ⟨k + 1, m, g, C, by omega, by omega, by go_num, rfl, HC4⟩
        case measure => simp [intOf]; omega
      · have HT := Lib.hid (sdL_more HK.out HV2.out)
        have HMM : Hid (decide (x ∈ sdL L k) = false) := Lib.hid (decide_eq_false hmem)
        have HNM := Lib.hid hmem
        clear hmem
        go_wp2_with fail
        refine (sail_spec _ _ _ L x _ HV.out _ (sds_atJ HS.out hC.out.2) hm HG.out).mono ?_
        rintro e w3 ⟨rfl, hb⟩
        have HC3 := Lib.hid (hC.out.next hb)
        clear hb c0 c1 c2 c3 c4 c5
        go_wp2_with fail
        refine (hasJ_spec _ _ _ _ (sdL L k) x _ HMM.out _ HC3.out.1 HML.out.symm (by omega)).mono ?_
        rintro e w4 ⟨rfl, hb⟩
        have HC4 := Lib.hid (HC3.out.next hb)
        clear hb
        go_wp2_with fail
        refine (putJ_spec _ _ _ _ (sdL L k) x HNM.out _ HC4.out.1 HML.out.symm (by omega)).mono ?_
        rintro e w5 ⟨v5, rfl, hc5⟩
        obtain ⟨g5, C5, rfl, _, _⟩ := own_capsJ hc5.1
        have HC5 : Hid (Col w 3 1 (.slice (some ⟨g5, 0, none⟩) (m + 1) C5) (m + 1) (ivs (sdL L (k + 1))) w5) := by
          unfold Hid
          rw [HT.out, HXV.out]
          exact ⟨own_base hc5.1 HC4.out.2.size, bthen HC4.out.2 hc5.2 HC4.out.2.size⟩
        clear hc5
        go_wp2_with fail
        go_roundw
        case rel => exact ⟨k + 1, m + 1, g5, C5, by omega, by omega, by go_num, rfl, HC5⟩
        case measure => simp [intOf]; omega
    · obtain rfl : k = L.length := by omega
      have HP := Lib.hid (sl_yes H1.out (col_lenJ hC.out) hC.out)
      go_wp2_with fail
      go_ret2
      exact HP.out
/-! ### LinesToRepeat -/
def lrK (L : List PS) (P : List Int) : Bool := pssB L && plnB P
def lrR (L : List PS) (P : List Int) : List Int := if lrK L P then rpL L P else []
def LrPost (L : List PS) (P : List Int) (w : World) : Ending → World → Prop := IntsPost (lrR L P) (fun j => (lrR L P).getD j 0) (lrK L P) w
theorem lr_no {L : List PS} {P : List Int} {w w' : World} {v : Value} (h : lrK L P = false) (hc : Col w 3 1 v 0 [] w') : LrPost L P w (.returned (.tuple #[v, .bool false])) w' := by
  unfold LrPost lrR
  rw [h]
  exact ints_of_col hc rfl
theorem lr_yes {L : List PS} {P : List Int} {w w' : World} {v : Value} {m : Nat} (h : lrK L P = true) (hc : Col w 3 1 v m (ivs (rpL L P)) w') : LrPost L P w (.returned (.tuple #[v, .bool true])) w' := by
  unfold LrPost lrR
  rw [h, if_pos rfl]
  exact ints_of_col hc (col_lenJ hc).symm
theorem lr_1 {L : List PS} {P : List Int} (h : pssB L = false) : lrK L P = false := by unfold lrK; rw [h]; rfl
theorem lr_2 {L : List PS} {P : List Int} (h : ¬ P.length ≤ 30) : lrK L P = false := by unfold lrK plnB; rw [decide_eq_false h]; simp
theorem lr_3 {L : List PS} {P : List Int} (h : riseB P P.length = false) : lrK L P = false := by unfold lrK plnB; rw [h]; simp
theorem lr_4 {L : List PS} {P : List Int} (h1 : pssB L = true) (h2 : P.length ≤ 30) (h3 : riseB P P.length = true) : lrK L P = true := by unfold lrK plnB; rw [h1, decide_eq_true h2, h3]; rfl
theorem take_snocI {P : List Int} {k : Nat} (hk : k < P.length) : P.take (k + 1) = P.take k ++ [P.getD k 0] := by
  rw [List.take_succ_eq_append_getElem hk, List.getD_eq_getElem?_getD, List.getElem?_eq_getElem hk]; rfl
theorem rp_skip {L : List PS} {P : List Int} {k : Nat} {x : Int} (hk : k < P.length) (hx : P.getD k 0 = x) (h : sailB L x = true) : rpL L (P.take (k + 1)) = rpL L (P.take k) := by
  unfold rpL
  rw [take_snocI hk, List.filter_append, hx]
  simp [h]
theorem rp_more {L : List PS} {P : List Int} {k : Nat} {x : Int} (hk : k < P.length) (hx : P.getD k 0 = x) (h : sailB L x = false) : rpL L (P.take (k + 1)) = rpL L (P.take k) ++ [x] := by
  unfold rpL
  rw [take_snocI hk, List.filter_append, hx]
  simp [h]
set_option maxRecDepth 20000 in
set_option maxHeartbeats 3200000 in
theorem repeat_spec (A : Option Addr) (n c : Nat) (L : List PS) (Ap : Option Addr) (cp : Nat) (P : List Int) (w : World) (hs : SdsJ w w.heap.size A n L) (hm : n ≤ maxLen) (hp : IFun w 0 w.heap.size Ap P.length (fun j => P.getD j 0)) (hpm : P.length ≤ 1048576) :
    Calls Try.prog 18 #[.slice A n c, .slice Ap P.length cp] w (LrPost L P w) := by
  obtain rfl := hs.1
  have HS := Lib.hid hs
  have HP := Lib.hid hp
  obtain ⟨i0, hi, hz0, hz1, hz2⟩ := info_parts info3
  have HI := Lib.hid (And.intro hi (And.intro hz0 (And.intro hz1 hz2)))
  clear hi hz0 hz1 hz2
  obtain ⟨W0, hW0⟩ : ∃ W0, W0 = w.alloc (.cells #[] 3) := ⟨_, rfl⟩
  have HC0 : Hid (Col w 3 1 (.slice (some ⟨w.heap.size, 0, none⟩) 0 0) 0 (ivs []) W0) := by rw [hW0]; exact Lib.hid (col_start 3 1 (Below.refl _ _))
  have HS0 := Lib.hid (sds_atJ hs HC0.out.2)
  have HE0 := Lib.hid hW0
  clear hs hp hW0
  rcases h1 : pssB L with _ | _
  · have H1 := Lib.hid h1
    clear h1
    go_enter Try.func18, Try.ntmps18
    go_wp2_with fail
    rw [← HE0.out]
    refine (pgood_spec_v _ _ _ L _ H1.out _ HS0.out hm).mono ?_
    rintro e w1 ⟨rfl, hb⟩
    have HC1 := Lib.hid (HC0.out.next hb)
    clear hb
    go_wp2_with fail
    go_ret2
    exact lr_no (lr_1 H1.out) HC1.out
  have H1 := Lib.hid h1
  have HG := Lib.hid (good11_of h1)
  have h12 := (good11_of h1).max
  by_cases h2 : (30 : Int) < P.length
  · have HN := Lib.hid (lr_2 (L := L) (P := P) (by omega))
    clear h1
    go_enter Try.func18, Try.ntmps18
    go_wp2_with fail
    rw [← HE0.out]
    refine (pgood_spec_v _ _ _ L _ H1.out _ HS0.out hm).mono ?_
    rintro e w1 ⟨rfl, hb⟩
    have HC1 := Lib.hid (HC0.out.next hb)
    clear hb
    go_wp2_with fail
    go_ret2
    exact lr_no HN.out HC1.out
  rcases h3 : riseB P P.length with _ | _
  · have H3 := Lib.hid h3
    clear h1 h3
    go_enter Try.func18, Try.ntmps18
    go_wp2_with fail
    rw [← HE0.out]
    refine (pgood_spec_v _ _ _ L _ H1.out _ HS0.out hm).mono ?_
    rintro e w1 ⟨rfl, hb⟩
    have HC1 := Lib.hid (HC0.out.next hb)
    clear hb
    go_wp2_with fail
    refine (riseJ_spec _ _ _ P _ H3.out _ ((HP.out.on HC1.out.2 (Nat.le_refl _)).wide (Nat.le_refl _) HC1.out.2.size) rfl (by omega)).mono ?_
    rintro e w2 ⟨rfl, hb⟩
    have HC2 := Lib.hid (HC1.out.next hb)
    clear hb
    go_wp2_with fail
    go_ret2
    exact lr_no (lr_3 H3.out) HC2.out
  have H3 := Lib.hid h3
  have HK := Lib.hid (lr_4 h1 (by omega) h3)
  clear h1 h3
  go_enter Try.func18, Try.ntmps18
  go_wp2_with fail
  rw [← HE0.out]
  refine (pgood_spec_v _ _ _ L _ H1.out _ HS0.out hm).mono ?_
  rintro e w1 ⟨rfl, hb⟩
  have HC1 := Lib.hid (HC0.out.next hb)
  clear hb
  go_wp2_with fail
  refine (riseJ_spec _ _ _ P _ H3.out _ ((HP.out.on HC1.out.2 (Nat.le_refl _)).wide (Nat.le_refl _) HC1.out.2.size) rfl (by omega)).mono ?_
  rintro e w2 ⟨rfl, hb⟩
  have HC2 := Lib.hid (HC1.out.next hb)
  clear hb
  go_wp2_with fail
  have HC3 : Hid (Col w 3 1 (.slice (some ⟨w.heap.size, 0, none⟩) 0 0) 0 (ivs (rpL L (P.take 0))) w2) := HC2
  clear HC2
  go_loopw [6, 7] (fun s i wr => ∃ (k m : Nat) (v : Value), k ≤ P.length ∧ m ≤ k ∧ i = .int .i64 k ∧ s = v ∧ Hid (Col w 3 1 v m (ivs (rpL L (P.take k))) wr)) (fun _ i _ => P.length - (intOf i).toNat)
  case atStart => exact ⟨0, 0, _, Nat.zero_le _, Nat.le_refl _, rfl, rfl, HC3⟩
  case round =>
    obtain ⟨k, m, v0, hk, hmk, rfl, hv0, hC⟩ := hrel
    have hv0' := hv0.symm
    clear hv0
    subst hv0'
    by_cases hlt : k < P.length
    · obtain ⟨g, rfl, hlo, hhi, d0, hf⟩ := (HP.out.on hC.out.2 (Nat.le_refl _)) k hlt
      clear hf
      obtain ⟨x, hx⟩ : ∃ x, P.getD k 0 = x := ⟨_, rfl⟩
      dsimp only at d0
      rw [hx] at d0
      rcases hv : sailB L x with _ | _
      · have HV := Lib.hid hv
        have HT := Lib.hid (rp_more hlt hx hv)
        clear hv hx
        go_wp2_with fail
        refine (sail_spec _ _ _ L x _ HV.out _ (sds_atJ HS.out hC.out.2) hm HG.out).mono ?_
        rintro e W9 ⟨rfl, hb⟩
        have HR9 := Lib.hid (hC.out.next hb)
        have d1 := (hb.cell (p := ⟨g, k, none⟩) (Nat.lt_of_lt_of_le hhi hC.out.2.size)).trans d0
        clear hb d0
        go_wp2_with (at_builtin; go_loud (refine wpList_append_own_at _ rfl _ _ 25 rfl w.heap.size 3 i0 (.int .i64 0) 1 8 Try.underlying25 HI.out.1 HI.out.2.1 HI.out.2.2.1 HI.out.2.2.2 rfl (by decide) _ _ _ rfl (HR9.out.1.alloc _) ⟨W9.heap.size, 0, none⟩ 1 1 [.int .i64 x] rfl rfl (one_newJ _ _ _) (by simp [Value.oneCell']) (by unfold maxLen; omega) (by omega) (by have := HR9.out.2.size; simp; omega) ?_; intro v' w5 hown' hgrow _ hfr; have HN := Lib.hid (HR9.out.step hown' hgrow); clear hown' hgrow hfr))
        have HC9 : Hid (Col w 3 1 v' (m + 1) (ivs (rpL L (P.take (k + 1)))) w5) := by unfold Hid; rw [HT.out, ivs_snoc]; exact HN.out
        clear HN
        go_roundw
        case rel => exact ⟨k + 1, m + 1, _, by omega, by omega, by go_num, rfl, HC9⟩
        case measure => simp [intOf]; omega
      · have HV := Lib.hid hv
        have HT := Lib.hid (rp_skip (L := L) hlt hx hv)
        clear hv hx
        go_wp2_with fail
        refine (sail_spec _ _ _ L x _ HV.out _ (sds_atJ HS.out hC.out.2) hm HG.out).mono ?_
        rintro e W9 ⟨rfl, hb⟩
        have HC9 : Hid (Col w 3 1 v0 m (ivs (rpL L (P.take (k + 1)))) W9) := by unfold Hid; rw [HT.out]; exact hC.out.next hb
        clear hb d0
        go_wp2_with fail
        go_roundw
        case rel => exact ⟨k + 1, m, _, by omega, by omega, by go_num, rfl, HC9⟩
        case measure => simp [intOf]; omega
    · obtain rfl : k = P.length := by omega
      have HC9 : Hid (Col w 3 1 v0 m (ivs (rpL L P)) wr) := by have h := hC.out; rw [List.take_length] at h; exact Lib.hid h
      have HQ := Lib.hid (lr_yes HK.out HC9.out)
      go_wp2_with fail
      go_ret2
      exact HQ.out
end Go.Proofs.Ytllfmjnniagjfaa
