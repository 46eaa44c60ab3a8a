/-
  Contracts of impl.SlopeIn, impl.RunTo, impl.SlopeFor, impl.DownTime, impl.DepthAfter over this translation. Conditions: stated at each theorem.
-/
import Derived.Test.YtdmnkmdlochogabYl
import Derived.Test.YtdmnkmdlochogabYj
namespace Go.Proofs.Ytdmnkmdlochogab
open Go.RowKit
set_option linter.unusedVariables false
set_option linter.unusedSimpArgs false

theorem pow5 {k : Nat} (h : k ≤ 5) : 1 * 1700 ^ k ≤ 14198570000000000 := by
  have h1 : 1700 ^ k ≤ 1700 ^ 5 := Nat.pow_le_pow_right (by omega) h
  have e : (1700 : Nat) ^ 5 = 14198570000000000 := by decide
  omega

set_option maxRecDepth 20000 in
set_option maxHeartbeats 3200000 in
theorem slopeIn_impl (A : Option Addr) (n c : Nat) (l : List (Int × Int)) (k : Int) (num : Int) (den : Int) (w : World) (hs : Spots w w.heap.size A n l) (hm : n ≤ maxLen) (hc : n ≤ c) (hcm : c ≤ maxLen) :
    Calls Try.prog 43 #[.slice A n c, .int .i64 k, .int .i64 num, .int .i64 den] w (Q3Post (slO l k num den) w) := by
  obtain rfl := hs.1
  have hmx : l.length ≤ 9223372036854775807 := Nat.le_trans hm (by unfold maxLen; decide)
  have HS := Lib.hid hs
  clear hs
  rcases h1 : strB l with _ | _
  · have H1 := Lib.hid h1
    have HO : Hid (slO l k num den = none) := by unfold Hid slO; exact if_neg (fun h => by have q := h1; simp only [reB, Bool.and_eq_true] at h; simp [reB, h] at q)
    clear h1
    go_enter Try.func43, Try.ntmps43
    go_wp2_with ((first | (go_at_call 35; refine (areSt_v _ _ _ l _ H1.out _ HS.out hm).mono ?_; rintro e w1 ⟨rfl, hb⟩; have HB1 := Lib.hid hb; clear hb)))
    go_ret3
    exact q3_none HO.out HB1.out
  have H1 := Lib.hid h1
  clear h1
  rcases h2 : inB k 0 ((l.length : Int) - 1) with _ | _
  · have H2 := Lib.hid h2
    have HO : Hid (slO l k num den = none) := by unfold Hid slO; exact if_neg (fun h => by have q := h2; simp only [reB, Bool.and_eq_true] at h; simp [reB, h] at q)
    clear h2
    go_enter Try.func43, Try.ntmps43
    go_wp2_with ((first | (go_at_call 35; refine (areSt_v _ _ _ l _ H1.out _ HS.out hm).mono ?_; rintro e w1 ⟨rfl, hb⟩; have HB1 := Lib.hid hb; clear hb) | (go_at_call 114; refine (within_v _ _ _ _ H2.out _).mono ?_; rintro e w' ⟨rfl, rfl⟩)))
    go_ret3
    exact q3_none HO.out HB1.out
  have H2 := Lib.hid h2
  clear h2
  rcases h3 : slB num den with _ | _
  · have H3 := Lib.hid h3
    have HO : Hid (slO l k num den = none) := by unfold Hid slO; exact if_neg (fun h => by have q := h3; simp only [reB, Bool.and_eq_true] at h; simp [reB, h] at q)
    clear h3
    go_enter Try.func43, Try.ntmps43
    go_wp2_with ((first | (go_at_call 35; refine (areSt_v _ _ _ l _ H1.out _ HS.out hm).mono ?_; rintro e w1 ⟨rfl, hb⟩; have HB1 := Lib.hid hb; clear hb) | (go_at_call 114; refine (within_v _ _ _ _ H2.out _).mono ?_; rintro e w' ⟨rfl, rfl⟩) | (go_at_call 106; refine (slope_impl _ _ _ H3.out _).mono ?_; rintro e w' ⟨rfl, rfl⟩)))
    go_ret3
    exact q3_none HO.out HB1.out
  have H3 := Lib.hid h3
  clear h3
  have HALL : (strB l && inB k 0 ((l.length : Int) - 1) && slB num den) = true := by rw [H1.out, H2.out, H3.out]; rfl
  have HK := H2.out
  have HSL := H3.out
  obtain ⟨⟨h51, h52⟩, hg⟩ := str_parts H1.out
  have HG := Lib.hid hg
  clear hg
  obtain ⟨hk0, hk1⟩ := inB_yes HK
  obtain ⟨kn, hkn⟩ : ∃ kn : Nat, k = kn := ⟨k.toNat, by omega⟩
  subst hkn
  obtain ⟨b, o, x0, y0, rfl, hbl, hl0, c00, c01⟩ := HS.out.2 0 (by omega)
  simp only [Nat.zero_mul, Nat.add_zero] at c00 c01
  have hy0 := (HG.out.at_ hl0).2
  obtain ⟨ym, hym⟩ : ∃ ym : Nat, y0 = ym := ⟨y0.toNat, by omega⟩
  subst hym
  have HL0 := Lib.hid hl0
  clear hl0 c00
  obtain ⟨b', o', x, z, hA', _, hlk, d0, d1⟩ := HS.out.2 kn (by omega)
  obtain ⟨rfl, rfl⟩ : b = b' ∧ o = o' := by injection hA' with h; injection h with h h'; exact ⟨h, h'⟩
  have hz := (HG.out.at_ hlk).2
  have hsl := sl_yes HSL
  obtain ⟨⟨hn1, hn2⟩, ⟨hd1, hd2⟩, hnd⟩ := hsl
  obtain ⟨dn, hdn⟩ : ∃ dn : Nat, den = dn := ⟨den.toNat, by omega⟩
  subst hdn
  obtain ⟨D, hD⟩ : ∃ D, dn * ym = D := ⟨_, rfl⟩
  have hDb : dn * ym ≤ 100 * 1700 := Nat.mul_le_mul (by omega) (by omega)
  have hDp : 0 < dn * ym := Nat.mul_pos (by omega) (by omega)
  rw [hD] at hDb hDp
  have hw2 : IntKind.i64.wrap ((dn : Int) * (ym : Int)) = (D : Int) := by rw [← hD, Int.natCast_mul]; exact IntWalk.i64_in _ (by rw [← Int.natCast_mul, hD]; omega)
  obtain ⟨M, hM⟩ : ∃ M, num * z = M := ⟨_, rfl⟩
  have hMb := mulY_bd (a := num) (b := z) (m := 200) (n := 1700) (by omega) (by omega) (by omega) (by omega)
  rw [hM] at hMb
  obtain ⟨hMb1, hMb2⟩ := hMb
  have hw1 : IntKind.i64.wrap (num * z) = M := by rw [hM]; exact IntWalk.i64_in _ (by omega)
  obtain ⟨r, hr⟩ : ∃ r, mkRat M D = r := ⟨_, rfl⟩
  have HO : Hid (slO l kn num dn = some r) := by unfold Hid; rw [sl_mk HALL hlk HL0.out, hM, hD, hr]
  have HR := Lib.hid hr
  clear hr hM hD hlk hA' d0
  go_enter Try.func43, Try.ntmps43
  go_wp2_with ((first | (go_at_call 35; refine (areSt_v _ _ _ l _ H1.out _ HS.out hm).mono ?_; rintro e w1 ⟨rfl, hb⟩; have HB1 := Lib.hid hb; clear hb) | (go_at_call 114; refine (within_v _ _ _ _ H2.out _).mono ?_; rintro e w' ⟨rfl, rfl⟩) | (go_at_call 106; refine (slope_impl _ _ _ H3.out _).mono ?_; rintro e w' ⟨rfl, rfl⟩)))
  replace c01 := cell_next HB1.out c01
  replace d1 := cell_next HB1.out d1
  have lc0 := lcell (c01)
  have lc1 := lcell (d1)
  refine region_later (W := w1) (by kernel_rfl) (by kernel_rfl) (Below.refl _ _) ?_
  repeat (go_big_quiet_step ((go_at_call 107; exact later_call (lowestQ_impl M D r HR.out _ (by omega) (by omega) hDp (by omega)))))
  refine wpQuiet_nil ?_
  intro W2 hW1
  have HL : Hid (Below w1.heap.size w1 W2) := by obtain ⟨x, rfl⟩ := hW1; exact Lib.hid x.below
  clear hW1 lc0 lc1
  have HB2 := Lib.hid (bthen HB1.out HL.out HB1.out.size)
  go_wp2_with fail
  go_ret3
  exact q3_some HO.out HB2.out
set_option maxRecDepth 20000 in
set_option maxHeartbeats 3200000 in
theorem runTo_impl (A : Option Addr) (n c : Nat) (l : List (Int × Int)) (num : Int) (den : Int) (d : Int) (w : World) (hs : Spots w w.heap.size A n l) (hm : n ≤ maxLen) (hc : n ≤ c) (hcm : c ≤ maxLen) :
    Calls Try.prog 33 #[.slice A n c, .int .i64 num, .int .i64 den, .int .i64 d] w (Q3Post (ruO l num den d) w) := by
  obtain rfl := hs.1
  have hmx : l.length ≤ 9223372036854775807 := Nat.le_trans hm (by unfold maxLen; decide)
  have HS := Lib.hid hs
  clear hs
  rcases h1 : reB l d with _ | _
  · have H1 := Lib.hid h1
    have HO : Hid (ruO l num den d = none) := by unfold Hid ruO; exact if_neg (fun h => by have q := h1; simp only [reB, Bool.and_eq_true] at h; simp [reB, h] at q)
    clear h1
    go_enter Try.func33, Try.ntmps33
    go_wp2_with ((first | (go_at_call 105; refine (reach_impl _ _ _ l d _ H1.out _ HS.out hm).mono ?_; rintro e w1 ⟨rfl, hb⟩; have HB1 := Lib.hid hb; clear hb)))
    go_ret3
    exact q3_none HO.out HB1.out
  have H1 := Lib.hid h1
  clear h1
  rcases h2 : slB num den with _ | _
  · have H2 := Lib.hid h2
    have HO : Hid (ruO l num den d = none) := by unfold Hid ruO; exact if_neg (fun h => by have q := h2; simp only [reB, Bool.and_eq_true] at h; simp [reB, h] at q)
    clear h2
    go_enter Try.func33, Try.ntmps33
    go_wp2_with ((first | (go_at_call 105; refine (reach_impl _ _ _ l d _ H1.out _ HS.out hm).mono ?_; rintro e w1 ⟨rfl, hb⟩; have HB1 := Lib.hid hb; clear hb) | (go_at_call 106; refine (slope_impl _ _ _ H2.out _).mono ?_; rintro e w' ⟨rfl, rfl⟩)))
    go_ret3
    exact q3_none HO.out HB1.out
  have H2 := Lib.hid h2
  clear h2
  have HALL : (reB l d && slB num den) = true := by rw [H1.out, H2.out]; rfl
  have HSL := H2.out
  obtain ⟨hst, hd0, hdT⟩ := re_yes H1.out
  obtain ⟨⟨h51, h52⟩, hg⟩ := str_parts hst
  have HG := Lib.hid hg
  clear hg
  have hTb := (thk_bd HG.out).2
  clear hst
  obtain ⟨b, o, x0, y0, rfl, hbl, hl0, c00, c01⟩ := HS.out.2 0 (by omega)
  simp only [Nat.zero_mul, Nat.add_zero] at c00 c01
  have hy0 := (HG.out.at_ hl0).2
  obtain ⟨ym, hym⟩ : ∃ ym : Nat, y0 = ym := ⟨y0.toNat, by omega⟩
  subst hym
  have HL0 := Lib.hid hl0
  clear hl0 c00
  have hsl := sl_yes HSL
  obtain ⟨⟨hn1, hn2⟩, ⟨hd1, hd2⟩, hnd⟩ := hsl
  obtain ⟨dn, hdn⟩ : ∃ dn : Nat, den = dn := ⟨den.toNat, by omega⟩
  subst hdn
  obtain ⟨D, hD⟩ : ∃ D, dn * ym = D := ⟨_, rfl⟩
  have hDb : dn * ym ≤ 100 * 1700 := Nat.mul_le_mul (by omega) (by omega)
  have hDp : 0 < dn * ym := Nat.mul_pos (by omega) (by omega)
  rw [hD] at hDb hDp
  have hw2 : IntKind.i64.wrap ((dn : Int) * (ym : Int)) = (D : Int) := by rw [← hD, Int.natCast_mul]; exact IntWalk.i64_in _ (by rw [← Int.natCast_mul, hD]; omega)
  obtain ⟨v, hv⟩ : ∃ v, spr l d = v := ⟨_, rfl⟩
  have hvb := spr_bd HG.out (d := d) hd0
  rw [hv] at hvb
  obtain ⟨hv1, hv2⟩ := hvb
  obtain ⟨M, hM⟩ : ∃ M, num * v = M := ⟨_, rfl⟩
  have hMb := mulY_bd (a := num) (b := v) (m := 200) (n := 42500000) (by omega) (by omega) (by omega) (by omega)
  rw [hM] at hMb
  obtain ⟨hMb1, hMb2⟩ := hMb
  have hw1 : IntKind.i64.wrap (num * v) = M := by rw [hM]; exact IntWalk.i64_in _ (by omega)
  obtain ⟨r, hr⟩ : ∃ r, mkRat M D = r := ⟨_, rfl⟩
  have HO : Hid (ruO l num dn d = some r) := by unfold Hid; rw [ru_mk HALL HL0.out, hv, hM, hD, hr]
  have HR := Lib.hid hr
  have HV := Lib.hid hv
  clear hr hM hD hv
  go_enter Try.func33, Try.ntmps33
  go_wp2_with ((first | (go_at_call 105; refine (reach_impl _ _ _ l d _ H1.out _ HS.out hm).mono ?_; rintro e w1 ⟨rfl, hb⟩; have HB1 := Lib.hid hb; clear hb) | (go_at_call 106; refine (slope_impl _ _ _ H2.out _).mono ?_; rintro e w' ⟨rfl, rfl⟩)))
  replace c01 := cell_next HB1.out c01
  have lc0 := lcell c01
  refine region_reads (W := w1) 17 9 [0, 1, 3, 6, 7, 8, 9, 10, 11] (by kernel_rfl) (by kernel_rfl) rfl (Below.refl _ _) (fun d _ _ _ _ h => by cases d <;> exact h) ?_
  simp only [picks, List.getElem?_cons_succ, List.getElem?_cons_zero]
  repeat (go_big_quiet_step (fail))
  refine wpQuiet_nil ?_
  intro W3 hW1
  have HL : Hid (Below w1.heap.size w1 W3) := by obtain ⟨x, rfl⟩ := hW1; exact Lib.hid x.below
  clear hW1 lc0 c01
  refine wpAnyN_one (i := 2) (by kernel_rfl) ?_
  refine wpOp_step rfl (fun K hK => ?_)
  rw [if_pos (by rfl)]
  go_simp
  refine (water_any l _ _ _ _ (spots_at HS.out (bthen HB1.out HL.out HB1.out.size)) hm hc hcm).mono ?_
  rintro e w4 ⟨P, rfl, hC, hb⟩
  have HX4 := Lib.hid (bthen HL.out hb HL.out.size)
  have HC := Lib.hid hC
  refine hK _ _ ⟨⟨⟨_, HX4.out⟩, rfl⟩, ?_⟩
  clear hK K hb hC
  refine wpAnyN_one (i := 4) (by kernel_rfl) ?_
  refine wpOp_step rfl (fun K hK => ?_)
  rw [if_pos (by rfl)]
  go_simp
  refine (spread_any l _ d v _ HV.out HC.out HG.out (by omega) hd0 (by omega)).mono ?_
  rintro e w5 ⟨rfl, hb⟩
  have HX5 := Lib.hid (bthen HX4.out hb HX4.out.size)
  refine hK _ _ ⟨⟨⟨_, HX5.out⟩, rfl⟩, ?_⟩
  clear hK K hb
  refine wpAnyN_rest [5, 12, 13, 14, 15, 16, 17] rfl (by kernel_rfl) rfl (by kernel_rfl) HX5.out ?_
  simp only [picks, List.getElem?_cons_succ, List.getElem?_cons_zero]
  repeat (go_big_quiet_step ((go_at_call 107; exact later_call (lowestQ_impl M D r HR.out _ (by omega) (by omega) hDp (by omega)))))
  refine wpQuiet_nil ?_
  intro W6 hW1
  have HL6 : Hid (Below w5.heap.size w5 W6) := by obtain ⟨x, rfl⟩ := hW1; exact Lib.hid x.below
  clear hW1
  have HB6 := Lib.hid (bthen HB1.out (bthen HX5.out HL6.out HX5.out.size) HB1.out.size)
  go_wp2_with fail
  go_ret3
  exact q3_some HO.out HB6.out
set_option maxRecDepth 20000 in
set_option maxHeartbeats 3200000 in
theorem slopeFor_impl (A : Option Addr) (n c : Nat) (l : List (Int × Int)) (run : Int) (w : World) (hs : Spots w w.heap.size A n l) (hm : n ≤ maxLen) (hc : n ≤ c) (hcm : c ≤ maxLen) :
    Calls Try.prog 39 #[.slice A n c, .int .i64 run] w (Q3Post (sfO l run) w) := by
  obtain rfl := hs.1
  have hmx : l.length ≤ 9223372036854775807 := Nat.le_trans hm (by unfold maxLen; decide)
  have HS := Lib.hid hs
  clear hs
  rcases h1 : strB l with _ | _
  · have H1 := Lib.hid h1
    have HO : Hid (sfO l run = none) := by unfold Hid sfO; exact if_neg (fun h => by have q := h1; simp only [reB, Bool.and_eq_true] at h; simp [reB, h] at q)
    have HT : Hid (tdN l = 0 ∧ strB l = false) := by unfold Hid tdN; rw [h1]; exact ⟨rfl, rfl⟩
    clear h1
    go_enter Try.func39, Try.ntmps39
    go_wp2_with ((first | (go_at_call 41; refine (totalD_v _ _ _ l _ _ HT.out.1 HT.out.2 _ HS.out hm).mono ?_; rintro e w1 ⟨rfl, hb⟩; have HB1 := Lib.hid hb; clear hb)))
    go_ret3
    exact q3_none HO.out HB1.out
  have H1 := Lib.hid h1
  obtain ⟨⟨h51, h52⟩, hg⟩ := str_parts h1
  have HG := Lib.hid hg
  clear hg
  obtain ⟨T, hT⟩ : ∃ T, thk l = T := ⟨_, rfl⟩
  have hTb := thk_bd HG.out
  rw [hT] at hTb
  obtain ⟨hT1, hT2⟩ := hTb
  have HTT := Lib.hid hT
  have HT : Hid (tdN l = T ∧ strB l = true) := by unfold Hid tdN; rw [h1, ← hT]; exact ⟨rfl, rfl⟩
  clear h1
  rcases h2 : inB run 0 60000 with _ | _
  · have H2 := Lib.hid h2
    have HO : Hid (sfO l run = none) := by unfold Hid sfO; exact if_neg (fun h => by have q := h2; simp only [reB, Bool.and_eq_true] at h; simp [reB, h] at q)
    clear h2
    go_enter Try.func39, Try.ntmps39
    go_wp2_with ((first | (go_at_call 41; refine (totalD_v _ _ _ l _ _ HT.out.1 HT.out.2 _ HS.out hm).mono ?_; rintro e w1 ⟨rfl, hb⟩; have HB1 := Lib.hid hb; clear hb) | (go_at_call 114; refine (within_v _ _ _ _ H2.out _).mono ?_; rintro e w' ⟨rfl, rfl⟩)))
    go_ret3
    exact q3_none HO.out HB1.out
  have H2 := Lib.hid h2
  clear h2
  have HALL : (strB l && inB run 0 60000) = true := by rw [H1.out, H2.out]; rfl
  obtain ⟨hr0, hr1⟩ := inB_yes H2.out
  obtain ⟨b, o, x0, y0, rfl, hbl, hl0, c00, c01⟩ := HS.out.2 0 (by omega)
  simp only [Nat.zero_mul, Nat.add_zero] at c00 c01
  have hy0 := (HG.out.at_ hl0).2
  obtain ⟨ym, hym⟩ : ∃ ym : Nat, y0 = ym := ⟨y0.toNat, by omega⟩
  subst hym
  have HL0 := Lib.hid hl0
  clear hl0 c00
  obtain ⟨vn, hvn⟩ : ∃ vn : Nat, spr l T = vn := ⟨(spr l T).toNat, by have := (spr_bd HG.out (d := T) (by omega)).1; omega⟩
  have hvb := spr_bd HG.out (d := T) (by omega)
  have hvp := spr_pos HG.out (d := T) (by omega) (by omega)
  rw [hvn] at hvb hvp
  obtain ⟨hv1, hv2⟩ := hvb
  obtain ⟨M, hM⟩ : ∃ M, run * (ym : Int) = M := ⟨_, rfl⟩
  have hMb := mulY_bd (a := run) (b := ym) (m := 60000) (n := 1700) (by omega) (by omega) (by omega) (by omega)
  rw [hM] at hMb
  obtain ⟨hMb1, hMb2⟩ := hMb
  have hw1 : IntKind.i64.wrap (run * (ym : Int)) = M := by rw [hM]; exact IntWalk.i64_in _ (by omega)
  obtain ⟨r, hr⟩ : ∃ r, mkRat M vn = r := ⟨_, rfl⟩
  have HO : Hid (sfO l run = some r) := by unfold Hid; rw [sf_mk HALL HL0.out (by rw [HTT.out]; exact hvn), hM, hr]
  have HR := Lib.hid hr
  have HV := Lib.hid hvn
  clear hr hM hvn
  clear hT
  go_enter Try.func39, Try.ntmps39
  go_wp2_with ((first | (go_at_call 41; refine (totalD_v _ _ _ l _ _ HT.out.1 HT.out.2 _ HS.out hm).mono ?_; rintro e w1 ⟨rfl, hb⟩; have HB1 := Lib.hid hb; clear hb) | (go_at_call 114; refine (within_v _ _ _ _ H2.out _).mono ?_; rintro e w' ⟨rfl, rfl⟩)))
  replace c01 := cell_next HB1.out c01
  have lc0 := lcell c01
  refine region_reads (W := w1) 15 8 [0, 1, 2, 3, 4, 5, 6, 8] (by kernel_rfl) (by kernel_rfl) rfl (Below.refl _ _) (fun d _ _ _ _ h => by cases d <;> exact h) ?_
  simp only [picks, List.getElem?_cons_succ, List.getElem?_cons_zero]
  repeat (go_big_quiet_step (fail))
  refine wpQuiet_nil ?_
  intro W3 hW1
  have HL : Hid (Below w1.heap.size w1 W3) := by obtain ⟨x, rfl⟩ := hW1; exact Lib.hid x.below
  clear hW1 lc0 c01
  refine wpAnyN_one (i := 7) (by kernel_rfl) ?_
  refine wpOp_step rfl (fun K hK => ?_)
  rw [if_pos (by rfl)]
  go_simp
  refine (water_any l _ _ _ _ (spots_at HS.out (bthen HB1.out HL.out HB1.out.size)) hm hc hcm).mono ?_
  rintro e w4 ⟨P, rfl, hC, hb⟩
  have HX4 := Lib.hid (bthen HL.out hb HL.out.size)
  have HC := Lib.hid hC
  refine hK _ _ ⟨⟨⟨_, HX4.out⟩, rfl⟩, ?_⟩
  clear hK K hb hC
  refine wpAnyN_one (i := 9) (by kernel_rfl) ?_
  refine wpOp_step rfl (fun K hK => ?_)
  rw [if_pos (by rfl)]
  go_simp
  refine (spread_any l _ T vn _ HV.out HC.out HG.out (by omega) (by omega) (by omega)).mono ?_
  rintro e w5 ⟨rfl, hb⟩
  have HX5 := Lib.hid (bthen HX4.out hb HX4.out.size)
  refine hK _ _ ⟨⟨⟨_, HX5.out⟩, rfl⟩, ?_⟩
  clear hK K hb
  refine wpAnyN_rest [10, 11, 12, 13, 14, 15] rfl (by kernel_rfl) rfl (by kernel_rfl) HX5.out ?_
  simp only [picks, List.getElem?_cons_succ, List.getElem?_cons_zero]
  repeat (go_big_quiet_step ((go_at_call 107; exact later_call (lowestQ_impl M vn r HR.out _ (by omega) (by omega) (by omega) (by omega)))))
  refine wpQuiet_nil ?_
  intro W6 hW1
  have HL6 : Hid (Below w5.heap.size w5 W6) := by obtain ⟨x, rfl⟩ := hW1; exact Lib.hid x.below
  clear hW1
  have HB6 := Lib.hid (bthen HB1.out (bthen HX5.out HL6.out HX5.out.size) HB1.out.size)
  go_wp2_with fail
  go_ret3
  exact q3_some HO.out HB6.out
set_option maxRecDepth 20000 in
set_option maxHeartbeats 3200000 in
theorem downTime_impl (A : Option Addr) (n c : Nat) (l : List (Int × Int)) (d : Int) (w : World) (hs : Spots w w.heap.size A n l) (hm : n ≤ maxLen) (hc : n ≤ c) (hcm : c ≤ maxLen) :
    Calls Try.prog 51 #[.slice A n c, .int .i64 d] w (Q3Post (dtO l d) w) := by
  obtain rfl := hs.1
  have hmx : l.length ≤ 9223372036854775807 := Nat.le_trans hm (by unfold maxLen; decide)
  have HS := Lib.hid hs
  clear hs
  rcases h1 : reB l d with _ | _
  · have H1 := Lib.hid h1
    have HO : Hid (dtO l d = none) := by unfold Hid dtO; exact if_neg (fun h => by have q := h1; simp only [reB, Bool.and_eq_true] at h; simp [reB, h] at q)
    clear h1
    go_enter Try.func51, Try.ntmps51
    go_wp2_with ((first | (go_at_call 105; refine (reach_impl _ _ _ l d _ H1.out _ HS.out hm).mono ?_; rintro e w1 ⟨rfl, hb⟩; have HB1 := Lib.hid hb; clear hb)))
    go_ret3
    exact q3_none HO.out HB1.out
  have H1 := Lib.hid h1
  clear h1
  obtain ⟨hst, hd0, hdT⟩ := re_yes H1.out
  obtain ⟨⟨h51, h52⟩, hg⟩ := str_parts hst
  have HG := Lib.hid hg
  clear hg
  have hTb := (thk_bd HG.out).2
  clear hst
  obtain ⟨r, hr⟩ : ∃ r, tmQ l d = r := ⟨_, rfl⟩
  have HO : Hid (dtO l d = some r) := by unfold Hid dtO; rw [if_pos H1.out, hr]
  have HR := Lib.hid hr
  clear hr
  go_enter Try.func51, Try.ntmps51
  go_wp2_with ((first | (go_at_call 105; refine (reach_impl _ _ _ l d _ H1.out _ HS.out hm).mono ?_; rintro e w1 ⟨rfl, hb⟩; have HB1 := Lib.hid hb; clear hb) | (go_at_call 108; refine (water_any l _ _ _ _ (spots_at HS.out HB1.out) hm hc hcm).mono ?_; rintro e w2 ⟨P, rfl, hC, hb⟩; have HC := Lib.hid hC; have HB2 := Lib.hid (bthen HB1.out hb HB1.out.size); clear hC hb) | (go_at_call 121; refine (time_any l _ d r _ HR.out HC.out HG.out (by omega) hd0 (by omega)).mono ?_; rintro e w3 ⟨rfl, hb⟩; have HB3 := Lib.hid (bthen HB2.out hb HB2.out.size); clear hb)))
  obtain ⟨W4, hW4⟩ : ∃ W, W = w3.alloc (.cells #[.int .i64 r.num, .int .i64 r.den] 131) := ⟨_, rfl⟩
  have HX4 : Hid (Below w3.heap.size w3 W4 ∧ Has W4 w3.heap.size [.int .i64 r.num, .int .i64 r.den]) := by rw [hW4]; exact Lib.hid (box1 (Below.refl _ _))
  rw [← hW4]
  clear hW4
  have HB4 := Lib.hid (bthen HB3.out HX4.out.1 HB3.out.size)
  have a0 := HX4.out.2.at_ 0 _ rfl
  have a1 := HX4.out.2.at_ 1 _ rfl
  have lc0 := lcell (a0)
  have lc1 := lcell (a1)
  refine region_later (W := W4) (by kernel_rfl) (by kernel_rfl) (Below.refl _ _) ?_
  repeat (go_big_quiet_step (fail))
  refine wpQuiet_nil ?_
  intro W5 hW1
  have HL : Hid (Below W4.heap.size W4 W5) := by obtain ⟨x, rfl⟩ := hW1; exact Lib.hid x.below
  clear hW1 lc0 lc1
  have HB5 := Lib.hid (bthen HB4.out HL.out HB4.out.size)
  go_wp2_with fail
  go_ret3
  exact q3_some HO.out HB5.out
set_option maxRecDepth 20000 in
set_option maxHeartbeats 3200000 in
theorem depthAfter_impl (A : Option Addr) (n c : Nat) (l : List (Int × Int)) (t : Int) (w : World) (hs : Spots w w.heap.size A n l) (hm : n ≤ maxLen) (hc : n ≤ c) (hcm : c ≤ maxLen) :
    Calls Try.prog 54 #[.slice A n c, .int .i64 t] w (Q3Post (daO l t) w) := by
  obtain rfl := hs.1
  have hmx : l.length ≤ 9223372036854775807 := Nat.le_trans hm (by unfold maxLen; decide)
  have HS := Lib.hid hs
  clear hs
  rcases h1 : strB l with _ | _
  · have H1 := Lib.hid h1
    have HO : Hid (daO l t = none) := by unfold Hid daO; exact if_neg (fun h => by have q := h1; simp only [reB, Bool.and_eq_true] at h; simp [reB, h] at q)
    clear h1
    go_enter Try.func54, Try.ntmps54
    go_wp2_with ((first | (go_at_call 35; refine (areSt_v _ _ _ l _ H1.out _ HS.out hm).mono ?_; rintro e w1 ⟨rfl, hb⟩; have HB1 := Lib.hid hb; clear hb)))
    go_ret3
    exact q3_none HO.out HB1.out
  have H1 := Lib.hid h1
  clear h1
  rcases h2 : inB t 0 200 with _ | _
  · have H2 := Lib.hid h2
    have HO : Hid (daO l t = none) := by unfold Hid daO; exact if_neg (fun h => by have q := h2; simp only [reB, Bool.and_eq_true] at h; simp [reB, h] at q)
    clear h2
    go_enter Try.func54, Try.ntmps54
    go_wp2_with ((first | (go_at_call 35; refine (areSt_v _ _ _ l _ H1.out _ HS.out hm).mono ?_; rintro e w1 ⟨rfl, hb⟩; have HB1 := Lib.hid hb; clear hb) | (go_at_call 114; refine (within_v _ _ _ _ H2.out _).mono ?_; rintro e w' ⟨rfl, rfl⟩)))
    go_ret3
    exact q3_none HO.out HB1.out
  have H2 := Lib.hid h2
  clear h2
  obtain ⟨ht0, ht1⟩ := inB_yes H2.out
  obtain ⟨⟨h51, h52⟩, hg⟩ := str_parts H1.out
  have HG := Lib.hid hg
  clear hg
  obtain ⟨r, hr⟩ : ∃ r, dpQ l (t : Rat) = r := ⟨_, rfl⟩
  have HO : Hid (daO l t = r) := by unfold Hid daO; rw [H1.out, H2.out, ← hr]; rfl
  have HP5 : Hid (1 * 1700 ^ l.length ≤ 14198570000000000) := pow5 h52
  have HR := Lib.hid hr
  have HQ0 : Hid ((0 : Rat) ≤ (t : Rat) ∧ (t : Rat) ≤ ((200 : Int) : Rat)) := Lib.hid ⟨Rat.intCast_nonneg.2 ht0, Rat.intCast_le_intCast.2 ht1⟩
  clear hr
  go_enter Try.func54, Try.ntmps54
  go_wp2_with ((first | (go_at_call 35; refine (areSt_v _ _ _ l _ H1.out _ HS.out hm).mono ?_; rintro e w1 ⟨rfl, hb⟩; have HB1 := Lib.hid hb; clear hb) | (go_at_call 114; refine (within_v _ _ _ _ H2.out _).mono ?_; rintro e w' ⟨rfl, rfl⟩) | (go_at_call 108; refine (water_any l _ _ _ _ (spots_at HS.out HB1.out) hm hc hcm).mono ?_; rintro e w2 ⟨P, rfl, hC, hb⟩; have HC := Lib.hid hC; have HB2 := Lib.hid (bthen HB1.out hb HB1.out.size); clear hC hb) | (go_at_call 123; refine (after_any l _ t 1 (t : Rat) r _ HR.out rfl rfl HC.out HG.out h52 HQ0.out.1 HQ0.out.2 HP5.out).mono ?_; rintro e w3 ⟨rfl, hb⟩; have HB3 := Lib.hid (bthen HB2.out hb HB2.out.size); clear hb)))
  obtain ⟨W4, hW4⟩ : ∃ W, W = w3.alloc (.cells #[.int .i64 (qN r), .int .i64 (qD r)] 131) := ⟨_, rfl⟩
  have HX4 : Hid (Below w3.heap.size w3 W4 ∧ Has W4 w3.heap.size [.int .i64 (qN r), .int .i64 (qD r)]) := by rw [hW4]; exact Lib.hid (box1 (Below.refl _ _))
  rw [← hW4]
  clear hW4
  have HB4 := Lib.hid (bthen HB3.out HX4.out.1 HB3.out.size)
  have a0 := HX4.out.2.at_ 0 _ rfl
  have a1 := HX4.out.2.at_ 1 _ rfl
  have lc0 := lcell (a0)
  have lc1 := lcell (a1)
  refine region_later (W := W4) (by kernel_rfl) (by kernel_rfl) (Below.refl _ _) ?_
  repeat (go_big_quiet_step (fail))
  refine wpQuiet_nil ?_
  intro W5 hW1
  have HL : Hid (Below W4.heap.size W4 W5) := by obtain ⟨x, rfl⟩ := hW1; exact Lib.hid x.below
  clear hW1 lc0 lc1
  have HB5 := Lib.hid (bthen HB4.out HL.out HB4.out.size)
  go_wp2_with fail
  go_ret3
  rw [HO.out]
  exact ⟨rfl, HB5.out⟩
end Go.Proofs.Ytdmnkmdlochogab
