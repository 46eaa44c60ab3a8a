/-
  Sailed lines and lines to repeat, the program: contracts of slices.Sort and slices.Compact over rows of the call's own, impl.SailedLines, arePlanned, LinesToRepeat over this translation. Conditions: stated at each theorem.
-/
import Derived.Test.YtllfmjnniagjfaaJa
import Derived.Test.YtllfmjnniagjfaaJu
import Derived.Test.YtllfmjnniagjfaaShelfS
import Derived.Sort.OwnSortedInts
import Derived.Lib.OwnBridge
namespace Go.Proofs.Ytllfmjnniagjfaa
open Go.RowKit
set_option linter.unusedVariables false

/-! ### Sorted and compacted -/
theorem at_isJ (zs : List Int) (j : Nat) : zs.toArray[j]! = zs.getD j 0 := by
  rw [List.getD_eq_getElem?_getD]
  by_cases h : j < zs.length
  · simp [h]
  · simp [h]
theorem asc_atJ {zs : List Int} (h : zs.Pairwise (· ≤ ·)) {i j : Nat} (hij : i < j) (hj : j < zs.length) : zs.getD i 0 ≤ zs.getD j 0 := by
  have := List.pairwise_iff_getElem.1 h i j (by omega) hj hij
  simpa [List.getD_eq_getElem?_getD, List.getElem?_eq_getElem hj, List.getElem?_eq_getElem (show i < zs.length by omega)] using this
theorem cmp_upJ {zs : List Int} (hs : zs.Pairwise (· ≤ ·)) : ∀ {m : Nat}, m ≤ zs.length → (Lib.compactUpTo zs.toArray m).Pairwise (· < ·) ∧ ∀ x, x ∈ Lib.compactUpTo zs.toArray m ↔ ∃ j, j < m ∧ zs.getD j 0 = x
  | 0, _ => by simp [Lib.compactUpTo]
  | m + 1, hm => by
    obtain ⟨h1, h2⟩ := cmp_upJ hs (m := m) (by omega)
    rw [Lib.compactUpTo_succ]
    rcases hk : Lib.keeps zs.toArray m with _ | _
    · simp only [Bool.false_eq_true, if_false, List.append_nil]
      refine ⟨h1, fun x => (h2 x).trans ⟨fun ⟨j, hj, e⟩ => ⟨j, by omega, e⟩, fun ⟨j, hj, e⟩ => ?_⟩⟩
      rcases Nat.lt_or_ge j m with a | a
      · exact ⟨j, a, e⟩
      · obtain rfl : j = m := by omega
        unfold Lib.keeps at hk
        have hk2 := of_decide_eq_false hk
        have hm0 : j ≠ 0 := fun e => hk2 (.inl e)
        have he : zs.toArray[j]! = zs.toArray[j - 1]! := Classical.byContradiction fun e => hk2 (.inr e)
        rw [at_isJ, at_isJ] at he
        exact ⟨j - 1, by omega, by rw [← he]; exact e⟩
    · simp only [if_true]
      unfold Lib.keeps at hk
      have hk2 := of_decide_eq_true hk
      rw [at_isJ, at_isJ] at hk2
      rw [at_isJ]
      refine ⟨?_, fun x => ?_⟩
      · rw [List.pairwise_append]
        refine ⟨h1, by simp, fun x hx y hy => ?_⟩
        obtain rfl : y = zs.getD m 0 := by simpa using hy
        obtain ⟨j, hj, rfl⟩ := (h2 x).1 hx
        rcases hk2 with h0 | h0
        · omega
        · have a1 : zs.getD (m - 1) 0 ≤ zs.getD m 0 := asc_atJ hs (by omega) (by omega)
          have a2 : zs.getD j 0 ≤ zs.getD (m - 1) 0 := by
            rcases Nat.lt_or_ge j (m - 1) with a | a
            · exact asc_atJ hs a (by omega)
            · rw [show j = m - 1 by omega]; exact Int.le_refl _
          omega
      · rw [List.mem_append, h2]
        constructor
        · rintro (⟨j, hj, e⟩ | h)
          · exact ⟨j, by omega, e⟩
          · have e : x = zs.getD m 0 := List.mem_singleton.1 h
            exact ⟨m, by omega, e.symm⟩
        · rintro ⟨j, hj, e⟩
          rcases Nat.lt_or_ge j m with a | a
          · exact .inl ⟨j, a, e⟩
          · obtain rfl : j = m := by omega
            exact .inr (by simp [← e])
theorem cmp_sortedJ {zs : List Int} (hs : zs.Pairwise (· ≤ ·)) : (Lib.compact zs).Pairwise (· < ·) ∧ ∀ x, x ∈ Lib.compact zs ↔ x ∈ zs := by
  obtain ⟨h1, h2⟩ := cmp_upJ hs (Nat.le_refl _)
  refine ⟨h1, fun x => (h2 x).trans ⟨fun ⟨j, hj, e⟩ => ?_, fun h => ?_⟩⟩
  · rw [← e, List.getD_eq_getElem?_getD, List.getElem?_eq_getElem hj]; exact List.getElem_mem hj
  · obtain ⟨j, hj⟩ := List.mem_iff_getElem?.1 h
    exact ⟨j, (List.getElem?_eq_some_iff.1 hj).1, by rw [List.getD_eq_getElem?_getD, hj]; rfl⟩
theorem sort_upJ (l : List Int) : (l.mergeSort fun x y => decide (x ≤ y)).Pairwise (· ≤ ·) := by
  have := List.pairwise_mergeSort (le := fun x y : Int => decide (x ≤ y)) (fun a b c h1 h2 => by simp at *; omega) (fun a b => by simp; omega) l
  simpa using this
def slU (L : List PS) : Nat → List Int
  | 0 => []
  | k + 1 => if sailB L (psAt L k).ln = true then slU L k ++ [(psAt L k).ln] else slU L k
theorem slU_mem {L : List PS} {y : Int} : ∀ {k : Nat}, y ∈ slU L k ↔ sailB L y = true ∧ ∃ j, j < k ∧ (psAt L j).ln = y
  | 0 => by simp [slU]
  | k + 1 => by
    rw [slU]
    by_cases h : sailB L (psAt L k).ln = true
    · rw [if_pos h, List.mem_append, slU_mem (k := k)]
      constructor
      · rintro (⟨h1, j, hj, e⟩ | hm)
        · exact ⟨h1, j, by omega, e⟩
        · have e : y = (psAt L k).ln := List.mem_singleton.1 hm
          subst e
          exact ⟨h, k, by omega, rfl⟩
      · rintro ⟨h1, j, hj, e⟩
        rcases Nat.lt_or_ge j k with a | a
        · exact .inl ⟨h1, j, a, e⟩
        · obtain rfl : j = k := by omega
          exact .inr (by rw [e]; simp)
    · rw [if_neg h, slU_mem (k := k)]
      constructor
      · rintro ⟨h1, j, hj, e⟩
        exact ⟨h1, j, by omega, e⟩
      · rintro ⟨h1, j, hj, e⟩
        rcases Nat.lt_or_ge j k with a | a
        · exact ⟨h1, j, a, e⟩
        · obtain rfl : j = k := by omega
          rw [e] at h
          exact absurd h1 h
theorem slU_len (L : List PS) : ∀ k, (slU L k).length ≤ k
  | 0 => by simp [slU]
  | k + 1 => by
    have := slU_len L k
    rw [slU]
    split
    · simp; omega
    · omega
def srtJ (l : List Int) : List Int := l.mergeSort fun x y => decide (x ≤ y)
theorem srtJ_len (l : List Int) : (srtJ l).length = l.length := List.length_mergeSort l
theorem slU_is (L : List PS) : Lib.compact (srtJ (slU L L.length)) = sdL L L.length := by
  obtain ⟨h1, h2⟩ := cmp_sortedJ (sort_upJ (slU L L.length))
  refine sdL_is h1 fun y => (h2 y).trans ?_
  rw [(List.mergeSort_perm (slU L L.length) _).mem_iff, slU_mem]
  exact ⟨fun h => h.1, fun h => ⟨h, sail_occ h⟩⟩
theorem slU_skip {L : List PS} {k : Nat} {v : PS} (h : L[k]? = some v) (hb : sailB L v.ln = false) : slU L (k + 1) = slU L k := by
  rw [slU, psAt_at h, hb]; simp
theorem slU_more {L : List PS} {k : Nat} {v : PS} (h : L[k]? = some v) (hb : sailB L v.ln = true) : slU L (k + 1) = slU L k ++ [v.ln] := by
  rw [slU, psAt_at h, if_pos hb]
/-! ### The library's two functions over a row of the call's own -/
theorem holdsJ {w : World} {base g n cap : Nat} {ls : List Int} (h : w.ownsRow base 3 1 (.slice (some ⟨g, 0, none⟩) n cap) n (ivs ls)) : Sort.Holds (Value.int .i64) w g 0 ls.toArray ∧ g < w.heap.size ∧ ls.length = n ∧ n ≤ cap ∧ cap ≤ maxLen ∧ base ≤ g := by
  obtain ⟨hl, ⟨hv, _⟩ | ⟨g', cap', cur, hv, hb, hg, hn, hc, hs, ht⟩⟩ := h
  · cases hv
  · injection hv with h1 h2 h3
    injection h1 with h1
    injection h1 with h1 _ _
    subst h1; subst h3
    have hll : ls.length = n := by simpa [ivs] using hl
    refine ⟨holds_of_blockI hg (by rw [hll, ← Nat.mul_one n, ht]; rfl), (Array.getElem?_eq_some_iff.1 hg).1, hll, hn, hc, hb⟩
theorem sort_own (base g n cap : Nat) (ls : List Int) (w : World) (h : w.ownsRow base 3 1 (.slice (some ⟨g, 0, none⟩) n cap) n (ivs ls)) (hn : n ≤ 1000) :
    Calls Try.prog 68 #[.slice (some ⟨g, 0, none⟩) n cap] w fun e w' => e = .returned (.tuple #[]) ∧ w'.ownsRow base 3 1 (.slice (some ⟨g, 0, none⟩) n cap) n (ivs (srtJ ls)) ∧ w.grownBy w' (some g) := by
  obtain ⟨hH, hgs, hll, hnc, hcm, hbg⟩ := holdsJ h
  subst hll
  refine (Try.slices_Sort_int g 0 cap ls w hH hgs (by omega)).mono ?_
  rintro e w' ⟨rfl, nn, os, rfl⟩
  obtain ⟨hl, ⟨hv, _⟩ | ⟨g', cap', cur, hv, hb, hg, hn', hc, hs, ht⟩⟩ := h
  · cases hv
  · injection hv with h1 h2 h3
    injection h1 with h1
    injection h1 with h1 _ _
    subst h1; subst h3
    exact ⟨rfl, ownsRow_sortedI (ts := srtJ ls) (srtJ_len ls) hbg hg hnc hcm hs, grownBy_sortedI _⟩
theorem compact_own (base g n cap : Nat) (ls : List Int) (w : World) (h : w.ownsRow base 3 1 (.slice (some ⟨g, 0, none⟩) n cap) n (ivs ls)) (hn : n ≤ 1000) :
    Calls Try.prog 69 #[.slice (some ⟨g, 0, none⟩) n cap] w fun e w' => e = .returned (.slice (some ⟨g, 0, none⟩) (Lib.compact ls).length cap) ∧ w'.ownsRow base 3 1 (.slice (some ⟨g, 0, none⟩) (Lib.compact ls).length cap) (Lib.compact ls).length (ivs (Lib.compact ls)) ∧ w.grownBy w' (some g) := by
  obtain ⟨hH, hgs, hll, hnc, hcm, hbg⟩ := holdsJ h
  subst hll
  have hle := Lib.compact_length_le ls
  refine (Try.slices_Compact_int g 0 cap ls w hH (by omega) hnc).mono ?_
  rintro e w' ⟨rfl, q, rfl⟩
  have hc := Lib.ownsRow_putRow (enc := Value.int .i64) (q := q) (k := (Lib.compact ls).length) (zs := ls) (ys := Lib.compact ls ++ List.replicate (ls.length - (Lib.compact ls).length) 0) h (by simp; omega) (by omega)
  rw [List.take_left] at hc
  refine ⟨rfl, hc, rfl, rfl, rfl, by simp, fun k hk hne => ?_⟩
  have : g ≠ k := fun e => hne (by rw [e])
  simp [Sort.putRow, Sort.mapBlock, Sort.ahead, Array.getElem?_modify, this]
theorem Col.sorted {w w1 w2 : World} {v v' : Value} {n m : Nat} {xs ys : List Value} (h : Col w 3 1 v n xs w1) (ho : w2.ownsRow w.heap.size 3 1 v' m ys) (hg : w1.grownBy w2 v.ownBlock) : Col w 3 1 v' m ys w2 :=
  ⟨ho, h.2.grown hg h.2.size (fun k e => (h.1.lt k e).1)⟩
/-! ### SailedLines -/
set_option maxRecDepth 20000 in
set_option maxHeartbeats 3200000 in
theorem sailed_impl (A : Option Addr) (n c : Nat) (L : List PS) (w : World) (hs : SdsJ w w.heap.size A n L) (hm : n ≤ maxLen) :
    Calls Try.prog 20 #[.slice A n c] w (SlPost L w) := by
  obtain rfl := hs.1
  have HS := Lib.hid hs
  clear hs
  rcases h1 : pssB L with _ | _
  · have H1 := Lib.hid h1
    clear h1
    go_enter Try.func20, Try.ntmps20
    go_wp2_with fail
    refine (pss_impl_v _ _ _ L _ H1.out _ HS.out hm).mono ?_
    rintro e w1 ⟨rfl, hb⟩
    have HC1 := Lib.hid (col_start (w := w) 3 1 hb)
    clear hb
    go_wp2_with fail
    go_ret2
    exact sl_no H1.out HC1.out
  have H1 := Lib.hid h1
  have HG := Lib.hid (good11_of h1)
  have h12 := (good11_of h1).max
  obtain ⟨i0, hi, hz0, hz1, hz2⟩ := info_parts info3
  have HI := Lib.hid (And.intro hi (And.intro hz0 (And.intro hz1 hz2)))
  clear h1 hi hz0 hz1 hz2
  go_enter Try.func20, Try.ntmps20
  go_wp2_with fail
  refine (pss_impl_v _ _ _ L _ H1.out _ HS.out hm).mono ?_
  rintro e w1 ⟨rfl, hb⟩
  have HC1 : Hid (Col w 3 1 (.slice (some ⟨w1.heap.size, 0, none⟩) 0 0) 0 (ivs (slU L 0)) (w1.alloc (.cells #[] 3))) := Lib.hid (col_start 3 1 hb)
  clear hb
  go_wp2_with fail
  go_loopw [4, 14] (fun s i wr => ∃ (k m g C : Nat), k ≤ L.length ∧ m ≤ k ∧ i = .int .i64 k ∧ s = .slice (some ⟨g, 0, none⟩) m C ∧ Hid (Col w 3 1 (.slice (some ⟨g, 0, none⟩) m C) m (ivs (slU L k)) wr)) (fun _ i _ => L.length - (intOf i).toNat)
  case atStart => exact ⟨0, 0, _, 0, Nat.zero_le _, Nat.le_refl _, rfl, rfl, HC1⟩
  case round =>
    obtain ⟨k, m, g, C, hk, hmk, rfl, rfl, hC⟩ := hrel
    by_cases hlt : k < L.length
    · obtain ⟨b, o, v, rfl, hbl, hL, c0, c1, c2, c3, c4, c5⟩ := (sds_atJ HS.out hC.out.2).2 k hlt
      obtain ⟨X, hX⟩ : ∃ W, W = wr.alloc (.cells #[.int .i64 v.ln, .int .i64 v.bg, .int .i64 v.en, .int .i64 v.pi, .int .i64 v.bd, .int .i64 v.co] 40) := ⟨_, rfl⟩
      have HX9 : Hid (Below wr.heap.size wr X ∧ Has X wr.heap.size [.int .i64 v.ln, .int .i64 v.bg, .int .i64 v.en, .int .i64 v.pi, .int .i64 v.bd, .int .i64 v.co]) := by rw [hX]; exact box1 (Below.refl _ _)
      have HCX := Lib.hid (hC.out.next HX9.out.1)
      have HK := Lib.hid hL
      have HE := Lib.hid hX
      have a0 := HX9.out.2.at_ 0 _ rfl
      clear hL hX
      rcases hv : sailB L v.ln with _ | _
      · have HV := Lib.hid hv
        have HT := Lib.hid (slU_skip HK.out hv)
        clear hv
        go_upto_region 7 with fail
        rw [← HE.out]
        clear c0 c1 c2 c3 c4 c5
        go_wp2_with fail
        refine (sail_impl _ _ _ L v.ln _ HV.out _ (sds_atJ HS.out HCX.out.2) hm HG.out).mono ?_
        rintro e w3 ⟨rfl, hb⟩
        have HC3 : Hid (Col w 3 1 (.slice (some ⟨g, 0, none⟩) m C) m (ivs (slU L (k + 1))) w3) := by unfold Hid; rw [HT.out]; exact HCX.out.next hb
        clear hb a0
        go_wp2_with fail
        go_roundw
        case rel => exact ⟨k + 1, m, g, C, by omega, by omega, by go_num, rfl, HC3⟩
        case measure => simp [intOf]; omega
      · have HV := Lib.hid hv
        have HT := Lib.hid (slU_more HK.out hv)
        clear hv
        go_upto_region 7 with fail
        rw [← HE.out]
        clear c0 c1 c2 c3 c4 c5
        go_wp2_with fail
        refine (sail_impl _ _ _ L v.ln _ HV.out _ (sds_atJ HS.out HCX.out.2) hm HG.out).mono ?_
        rintro e W9 ⟨rfl, hb⟩
        have HR9 := Lib.hid (HCX.out.next hb)
        have d0 := cell_next hb a0
        clear hb a0
        go_wp2_with (at_builtin; go_loud (refine wpList_append_own_at _ rfl _ _ 25 rfl w.heap.size 3 i0 (.int .i64 0) 1 8 Try.underlying25 HI.out.1 HI.out.2.1 HI.out.2.2.1 HI.out.2.2.2 rfl (by decide) _ _ _ rfl (HR9.out.1.alloc _) ⟨W9.heap.size, 0, none⟩ 1 1 [.int .i64 v.ln] rfl rfl (one_newJ _ _ _) (by simp [Value.oneCell']) (by unfold maxLen; omega) (by omega) (by have := HR9.out.2.size; simp; omega) ?_; intro v' w5 hown' hgrow _ hfr; have HN := Lib.hid (HR9.out.step hown' hgrow); clear hown' hgrow hfr))
        obtain ⟨g5, C5, rfl, _, _⟩ := own_capsJ HN.out.1
        have HC9 : Hid (Col w 3 1 (.slice (some ⟨g5, 0, none⟩) (m + 1) C5) (m + 1) (ivs (slU L (k + 1))) w5) := by unfold Hid; rw [HT.out, ivs_snoc]; exact HN.out
        clear HN
        go_roundw
        case rel => exact ⟨k + 1, m + 1, g5, C5, by omega, by omega, by go_num, rfl, HC9⟩
        case measure => simp [intOf]; omega
    · obtain rfl : k = L.length := by omega
      have HCS := Lib.hid (sort_own _ g m C _ _ hC.out.1 (by omega))
      go_wp2_with fail
      refine HCS.out.mono ?_
      rintro e w3 ⟨rfl, ho, hg⟩
      have HC3 : Hid (Col w 3 1 (.slice (some ⟨g, 0, none⟩) m C) m (ivs (srtJ (slU L L.length))) w3) := Lib.hid (hC.out.sorted ho hg)
      have HCC := Lib.hid (compact_own _ g m C _ _ HC3.out.1 (by omega))
      clear ho hg HCS
      rw [slU_is] at HCC
      go_wp2_with fail
      refine HCC.out.mono ?_
      rintro e w4 ⟨rfl, ho, hg⟩
      have HC4 := Lib.hid (HC3.out.sorted ho hg)
      have HP := Lib.hid (sl_yes H1.out rfl HC4.out)
      clear ho hg
      go_wp2_with fail
      go_ret2
      exact HP.out
/-! ### LinesToRepeat -/
set_option maxRecDepth 20000 in
set_option maxHeartbeats 1600000 in
theorem planned_impl (A : Option Addr) (C lo hi : Nat) (P : List Int) (r : Bool) (hr : plnB P = r) (w : World) (hp : IFun w lo hi A P.length (fun j => P.getD j 0)) (hpm : P.length ≤ 1048576) :
    Calls Try.prog 63 #[.slice A P.length C] w fun e w' => e = .returned (.bool r) ∧ w = w' := by
  have HI := Lib.hid hp
  unfold plnB at hr
  clear hp
  by_cases h30 : (30 : Int) < P.length
  · have HR : Hid (false = r) := by unfold Hid; rw [← hr, decide_eq_false (show ¬ P.length ≤ 30 by omega)]; rfl
    clear hr
    go_enter Try.func63, Try.ntmps63
    go_wp2_with fail
    go_ret
    exact ⟨ret_bool HR.out, rfl⟩
  have HR : Hid (riseB P P.length = r) := by unfold Hid; rw [← hr, decide_eq_true (show P.length ≤ 30 by omega), Bool.true_and]
  clear hr
  go_enter Try.func63, Try.ntmps63
  go_wp2_with fail
  go_loopw [10] (fun i wr => ∃ k : Nat, k ≤ P.length ∧ i = .int .i64 k ∧ Hid (riseB P k = true) ∧ Hid (w = wr)) (fun i _ => P.length - (intOf i).toNat)
  case atStart => exact ⟨0, Nat.zero_le _, rfl, Lib.hid rfl, Lib.hid rfl⟩
  case round =>
    obtain ⟨k, hk, rfl, hA, hW⟩ := hrel
    obtain rfl := hW.out
    by_cases hlt : k < P.length
    · obtain ⟨g, rfl, hlo, hhi, c0, hf⟩ := HI.out k hlt
      clear hf
      obtain ⟨x, hx⟩ : ∃ x, P.getD k 0 = x := ⟨_, rfl⟩
      dsimp only at c0
      rw [hx] at c0
      have HX := Lib.hid hx
      clear hx
      rcases h1 : inB x 1 999 with _ | _
      · have H1 := Lib.hid h1
        have HP : Hid (r = false) := Lib.hid (by rw [← HR.out]; exact rise_bad hlt (by rw [HX.out, h1]; rfl))
        clear h1
        go_wp2_with fail
        refine (logJ_impl _ _ H1.out _).mono ?_
        rintro e w' ⟨rfl, rfl⟩
        go_wp2_with fail
        go_ret
        exact ⟨ret_bool HP.out.symm, rfl⟩
      have H1 := Lib.hid h1
      rcases k with _ | j
      · have HA2 : Hid (riseB P (0 + 1) = true) := Lib.hid (by rw [riseB_succ, HX.out, h1]; rfl)
        clear h1
        go_wp2_with fail
        refine (logJ_impl _ _ H1.out _).mono ?_
        rintro e w' ⟨rfl, hw'⟩
        have HW' := Lib.hid hw'
        clear hw'
        go_wp2_with fail
        go_roundw
        case rel => exact ⟨1, by omega, by go_num, HA2, HW'⟩
        case measure => simp [intOf]; omega
      obtain ⟨g', e', hlo', hhi', d0, hf⟩ := HI.out j (by omega)
      clear hf
      obtain rfl : g = g' := by injection e' with h; injection h
      obtain ⟨y, hy⟩ : ∃ y, P.getD j 0 = y := ⟨_, rfl⟩
      dsimp only at d0
      rw [hy] at d0
      clear e'
      by_cases hyx : y < x
      · have hd : decide (x ≤ y) = false := decide_eq_false (by omega)
        have HA2 : Hid (riseB P (j + 1 + 1) = true) := Lib.hid (by rw [riseB_succ, hA.out, HX.out, h1, Nat.add_sub_cancel, hy, decide_eq_true hyx]; simp)
        clear h1 hy
        go_wp2_with fail
        refine (logJ_impl _ _ H1.out _).mono ?_
        rintro e w' ⟨rfl, hw'⟩
        have HW' := Lib.hid hw'
        obtain rfl := hw'
        go_wp2_with fail
        go_roundw
        case rel => exact ⟨j + 1 + 1, by omega, by go_num, HA2, HW'⟩
        case measure => simp [intOf]; omega
      · have hd : decide (x ≤ y) = true := decide_eq_true (by omega)
        have HP : Hid (r = false) := Lib.hid (by rw [← HR.out]; exact rise_bad hlt (by rw [HX.out, Nat.add_sub_cancel, hy, decide_eq_false hyx]; simp))
        clear h1 hy
        go_wp2_with fail
        refine (logJ_impl _ _ H1.out _).mono ?_
        rintro e w' ⟨rfl, rfl⟩
        go_wp2_with fail
        go_ret
        exact ⟨ret_bool HP.out.symm, rfl⟩
    · obtain rfl : k = P.length := by omega
      have HP : Hid (r = true) := Lib.hid (by rw [← HR.out]; exact hA.out)
      go_wp2_with fail
      go_ret
      exact ⟨ret_bool HP.out.symm, rfl⟩
set_option maxRecDepth 20000 in
set_option maxHeartbeats 3200000 in
theorem repeat_impl (A : Option Addr) (n c : Nat) (L : List PS) (Ap : Option Addr) (cp : Nat) (P : List Int) (w : World) (hs : SdsJ w w.heap.size A n L) (hm : n ≤ maxLen) (hp : IFun w 0 w.heap.size Ap P.length (fun j => P.getD j 0)) (hpm : P.length ≤ 1048576) :
    Calls Try.prog 17 #[.slice A n c, .slice Ap P.length cp] w (LrPost L P w) := by
  obtain rfl := hs.1
  have HS := Lib.hid hs
  have HP := Lib.hid hp
  obtain ⟨i0, hi, hz0, hz1, hz2⟩ := info_parts info3
  have HI := Lib.hid (And.intro hi (And.intro hz0 (And.intro hz1 hz2)))
  clear hi hz0 hz1 hz2 hs hp
  rcases h1 : pssB L with _ | _
  · have H1 := Lib.hid h1
    clear h1
    go_enter Try.func17, Try.ntmps17
    go_wp2_with fail
    refine (pss_impl_v _ _ _ L _ H1.out _ HS.out hm).mono ?_
    rintro e w1 ⟨rfl, hb⟩
    have HC1 := Lib.hid (col_start (w := w) 3 1 hb)
    clear hb
    go_wp2_with fail
    go_ret2
    exact lr_no (lr_1 H1.out) HC1.out
  have H1 := Lib.hid h1
  have HG := Lib.hid (good11_of h1)
  have h12 := (good11_of h1).max
  rcases h2 : plnB P with _ | _
  · have H2 := Lib.hid h2
    have HK : Hid (lrK L P = false) := by unfold Hid lrK; rw [h2, Bool.and_false]
    clear h1 h2
    go_enter Try.func17, Try.ntmps17
    go_wp2_with fail
    refine (pss_impl_v _ _ _ L _ H1.out _ HS.out hm).mono ?_
    rintro e w1 ⟨rfl, hb⟩
    have HB1 := Lib.hid hb
    clear hb
    go_wp2_with fail
    refine (planned_impl _ _ _ _ P _ H2.out _ (HP.out.on HB1.out (Nat.le_refl _)) hpm).mono ?_
    rintro e w' ⟨rfl, rfl⟩
    have HC1 := Lib.hid (col_start (w := w) 3 1 HB1.out)
    go_wp2_with fail
    go_ret2
    exact lr_no HK.out HC1.out
  have H2 := Lib.hid h2
  have HK : Hid (lrK L P = true) := by unfold Hid lrK; rw [h1, h2]; rfl
  have h30 : P.length ≤ 30 := by
    unfold plnB at h2
    rw [Bool.and_eq_true] at h2
    exact of_decide_eq_true h2.1
  clear h1 h2
  go_enter Try.func17, Try.ntmps17
  go_wp2_with fail
  refine (pss_impl_v _ _ _ L _ H1.out _ HS.out hm).mono ?_
  rintro e w1 ⟨rfl, hb⟩
  have HB1 := Lib.hid hb
  clear hb
  go_wp2_with fail
  refine (planned_impl _ _ _ _ P _ H2.out _ (HP.out.on HB1.out (Nat.le_refl _)) hpm).mono ?_
  rintro e w' ⟨rfl, rfl⟩
  have HC3 : Hid (Col w 3 1 (.slice (some ⟨w1.heap.size, 0, none⟩) 0 0) 0 (ivs (rpL L (P.take 0))) (w1.alloc (.cells #[] 3))) := Lib.hid (col_start (w := w) 3 1 HB1.out)
  go_wp2_with fail
  go_loopw [6, 21] (fun s i wr => ∃ (k m : Nat) (v : Value), k ≤ P.length ∧ m ≤ k ∧ i = .int .i64 k ∧ s = v ∧ Hid (Col w 3 1 v m (ivs (rpL L (P.take k))) wr)) (fun _ i _ => P.length - (intOf i).toNat)
  case atStart => exact ⟨0, 0, _, Nat.zero_le _, Nat.le_refl _, rfl, rfl, HC3⟩
  case round =>
    obtain ⟨k, m, v0, hk, hmk, rfl, hv0, hC⟩ := hrel
    have hv0' := hv0.symm
    clear hv0
    subst hv0'
    by_cases hlt : k < P.length
    · obtain ⟨g, rfl, hlo, hhi, d0, hf⟩ := (HP.out.on hC.out.2 (Nat.le_refl _)) k hlt
      clear hf
      obtain ⟨x, hx⟩ : ∃ x, P.getD k 0 = x := ⟨_, rfl⟩
      dsimp only at d0
      rw [hx] at d0
      rcases hv : sailB L x with _ | _
      · have HV := Lib.hid hv
        have HT := Lib.hid (rp_more hlt hx hv)
        clear hv hx
        go_wp2_with fail
        refine (sail_impl _ _ _ L x _ HV.out _ (sds_atJ HS.out hC.out.2) hm HG.out).mono ?_
        rintro e W9 ⟨rfl, hb⟩
        have HR9 := Lib.hid (hC.out.next hb)
        clear hb d0
        go_wp2_with (at_builtin; go_loud (refine wpList_append_own_at _ rfl _ _ 25 rfl w.heap.size 3 i0 (.int .i64 0) 1 8 Try.underlying25 HI.out.1 HI.out.2.1 HI.out.2.2.1 HI.out.2.2.2 rfl (by decide) _ _ _ rfl (HR9.out.1.alloc _) ⟨W9.heap.size, 0, none⟩ 1 1 [.int .i64 x] rfl rfl (one_newJ _ _ _) (by simp [Value.oneCell']) (by unfold maxLen; omega) (by omega) (by have := HR9.out.2.size; simp; omega) ?_; intro v' w5 hown' hgrow _ hfr; have HN := Lib.hid (HR9.out.step hown' hgrow); clear hown' hgrow hfr))
        have HC9 : Hid (Col w 3 1 v' (m + 1) (ivs (rpL L (P.take (k + 1)))) w5) := by unfold Hid; rw [HT.out, ivs_snoc]; exact HN.out
        clear HN
        go_roundw
        case rel => exact ⟨k + 1, m + 1, _, by omega, by omega, by go_num, rfl, HC9⟩
        case measure => simp [intOf]; omega
      · have HV := Lib.hid hv
        have HT := Lib.hid (rp_skip (L := L) hlt hx hv)
        clear hv hx
        go_wp2_with fail
        refine (sail_impl _ _ _ L x _ HV.out _ (sds_atJ HS.out hC.out.2) hm HG.out).mono ?_
        rintro e W9 ⟨rfl, hb⟩
        have HC9 : Hid (Col w 3 1 v0 m (ivs (rpL L (P.take (k + 1)))) W9) := by unfold Hid; rw [HT.out]; exact hC.out.next hb
        clear hb d0
        go_wp2_with fail
        go_roundw
        case rel => exact ⟨k + 1, m, _, by omega, by omega, by go_num, rfl, HC9⟩
        case measure => simp [intOf]; omega
    · obtain rfl : k = P.length := by omega
      have HC9 : Hid (Col w 3 1 v0 m (ivs (rpL L P)) wr) := by have h := hC.out; rw [List.take_length] at h; exact Lib.hid h
      have HQ := Lib.hid (lr_yes HK.out HC9.out)
      go_wp2_with fail
      go_ret2
      exact HQ.out
end Go.Proofs.Ytllfmjnniagjfaa
