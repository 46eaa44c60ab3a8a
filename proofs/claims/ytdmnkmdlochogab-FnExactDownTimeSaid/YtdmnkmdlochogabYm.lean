/-
  Contracts of spec.SlopeIn, spec.RunTo, spec.SlopeFor, spec.DownTime over this translation. Conditions: stated at each theorem.
-/
import Derived.Test.YtdmnkmdlochogabYl
import Derived.Test.YtdmnkmdlochogabYx
namespace Go.Proofs.Ytdmnkmdlochogab
open Go.RowKit
set_option linter.unusedVariables false
set_option linter.unusedSimpArgs false

set_option maxRecDepth 20000 in
set_option maxHeartbeats 3200000 in
theorem slopeIn_spec (A : Option Addr) (n c : Nat) (l : List (Int × Int)) (k : Int) (num : Int) (den : Int) (w : World) (hs : Spots w w.heap.size A n l) (hm : n ≤ maxLen) (hc : n ≤ c) (hcm : c ≤ maxLen) :
    Calls Try.prog 44 #[.slice A n c, .int .i64 k, .int .i64 num, .int .i64 den] w (Q3Post (slO l k num den) w) := by
  obtain rfl := hs.1
  have hmx : l.length ≤ 9223372036854775807 := Nat.le_trans hm (by unfold maxLen; decide)
  have HS := Lib.hid hs
  clear hs
  rcases h1 : (strB l && slB num den) with _ | _
  · have H1 := Lib.hid h1
    have HO : Hid (slO l k num den = none) := by unfold Hid slO; exact if_neg (fun h => by have q := h1; simp only [reB, Bool.and_eq_true] at h; simp [reB, h] at q)
    clear h1
    go_enter Try.func44, Try.ntmps44
    go_wp2_with ((first | (go_at_call 110; refine (slope_spec _ _ _ l _ _ _ H1.out _ HS.out hm).mono ?_; rintro e w' ⟨rfl, rfl⟩)))
    go_ret3
    exact q3_none HO.out (Below.refl _ _)
  have H1 := Lib.hid h1
  clear h1
  rcases h2 : inB k 0 ((l.length : Int) - 1) with _ | _
  · have H2 := Lib.hid h2
    have HO : Hid (slO l k num den = none) := by unfold Hid slO; exact if_neg (fun h => by have q := h2; simp only [reB, Bool.and_eq_true] at h; (try rw [HTT.out] at h); simp [reB, h] at q)
    clear h2
    go_enter Try.func44, Try.ntmps44
    go_wp2_with ((first | (go_at_call 110; refine (slope_spec _ _ _ l _ _ _ H1.out _ HS.out hm).mono ?_; rintro e w' ⟨rfl, rfl⟩) | (go_at_call 89; refine (l1In_v _ _ _ _ H2.out _).mono ?_; rintro e w' ⟨rfl, rfl⟩)))
    go_ret3
    exact q3_none HO.out (Below.refl _ _)
  have H2 := Lib.hid h2
  clear h2
  obtain ⟨hst, HSL⟩ := Bool.and_eq_true_iff.1 H1.out
  have HK := H2.out
  have HALL : (strB l && inB k 0 ((l.length : Int) - 1) && slB num den) = true := by rw [hst, HK, HSL]; rfl
  obtain ⟨⟨h51, h52⟩, hg⟩ := str_parts hst
  have HG := Lib.hid hg
  clear hg
  clear hst
  obtain ⟨hk0, hk1⟩ := inB_yes HK
  obtain ⟨kn, hkn⟩ : ∃ kn : Nat, k = kn := ⟨k.toNat, by omega⟩
  subst hkn
  obtain ⟨b, o, x0, y0, rfl, hbl, hl0, c00, c01⟩ := HS.out.2 0 (by omega)
  simp only [Nat.zero_mul, Nat.add_zero] at c00 c01
  have hy0 := (HG.out.at_ hl0).2
  obtain ⟨ym, hym⟩ : ∃ ym : Nat, y0 = ym := ⟨y0.toNat, by omega⟩
  subst hym
  have HL0 := Lib.hid hl0
  clear hl0 c00
  obtain ⟨b', o', x, z, hA', _, hlk, d0, d1⟩ := HS.out.2 kn (by omega)
  obtain ⟨rfl, rfl⟩ : b = b' ∧ o = o' := by injection hA' with h; injection h with h h'; exact ⟨h, h'⟩
  have hz := (HG.out.at_ hlk).2
  have hsl := sl_yes HSL
  obtain ⟨⟨hn1, hn2⟩, ⟨hd1, hd2⟩, hnd⟩ := hsl
  obtain ⟨dn, hdn⟩ : ∃ dn : Nat, den = dn := ⟨den.toNat, by omega⟩
  subst hdn
  obtain ⟨D, hD⟩ : ∃ D, dn * ym = D := ⟨_, rfl⟩
  have hDb : dn * ym ≤ 100 * 1700 := Nat.mul_le_mul (by omega) (by omega)
  have hDp : 0 < dn * ym := Nat.mul_pos (by omega) (by omega)
  rw [hD] at hDb hDp
  have hw2 : IntKind.i64.wrap ((dn : Int) * (ym : Int)) = (D : Int) := by rw [← hD, Int.natCast_mul]; exact IntWalk.i64_in _ (by rw [← Int.natCast_mul, hD]; omega)
  obtain ⟨M, hM⟩ : ∃ M, num * z = M := ⟨_, rfl⟩
  have hMb := mulY_bd (a := num) (b := z) (m := 200) (n := 1700) (by omega) (by omega) (by omega) (by omega)
  rw [hM] at hMb
  obtain ⟨hMb1, hMb2⟩ := hMb
  have hw1 : IntKind.i64.wrap (num * z) = M := by rw [hM]; exact IntWalk.i64_in _ (by omega)
  obtain ⟨r, hr⟩ : ∃ r, mkRat M D = r := ⟨_, rfl⟩
  have HO : Hid (slO l kn num dn = some r) := by unfold Hid; rw [sl_mk HALL hlk HL0.out, hM, hD, hr]
  have HR := Lib.hid hr
  clear hr hM hD hlk hA' d0
  go_enter Try.func44, Try.ntmps44
  go_wp2_with ((first | (go_at_call 110; refine (slope_spec _ _ _ l _ _ _ H1.out _ HS.out hm).mono ?_; rintro e w' ⟨rfl, rfl⟩) | (go_at_call 89; refine (l1In_v _ _ _ _ H2.out _).mono ?_; rintro e w' ⟨rfl, rfl⟩)))
  have lc0 := lcell (c01)
  have lc1 := lcell (d1)
  refine region_later (W := w) (by kernel_rfl) (by kernel_rfl) (Below.refl _ _) ?_
  repeat (go_big_quiet_step ((go_at_call 112; exact later_call (reduceQ_spec M D r HR.out _ (by omega) (by omega) hDp (by omega)))))
  refine wpQuiet_nil ?_
  intro W2 hW1
  have HL : Hid (Below w.heap.size w W2) := by obtain ⟨x, rfl⟩ := hW1; exact Lib.hid x.below
  clear hW1 lc0 lc1
  have HB2 := HL
  go_wp2_with fail
  go_ret3
  exact q3_some HO.out HB2.out
set_option maxRecDepth 20000 in
set_option maxHeartbeats 3200000 in
theorem runTo_spec (A : Option Addr) (n c : Nat) (l : List (Int × Int)) (num : Int) (den : Int) (d : Int) (w : World) (hs : Spots w w.heap.size A n l) (hm : n ≤ maxLen) (hc : n ≤ c) (hcm : c ≤ maxLen) :
    Calls Try.prog 34 #[.slice A n c, .int .i64 num, .int .i64 den, .int .i64 d] w (Q3Post (ruO l num den d) w) := by
  obtain rfl := hs.1
  have hmx : l.length ≤ 9223372036854775807 := Nat.le_trans hm (by unfold maxLen; decide)
  have HS := Lib.hid hs
  clear hs
  rcases h1 : (strB l && slB num den) with _ | _
  · have H1 := Lib.hid h1
    have HO : Hid (ruO l num den d = none) := by unfold Hid ruO; exact if_neg (fun h => by have q := h1; simp only [reB, Bool.and_eq_true] at h; simp [reB, h] at q)
    clear h1
    go_enter Try.func34, Try.ntmps34
    go_wp2_with ((first | (go_at_call 110; refine (slope_spec _ _ _ l _ _ _ H1.out _ HS.out hm).mono ?_; rintro e w' ⟨rfl, rfl⟩)))
    go_ret3
    exact q3_none HO.out (Below.refl _ _)
  have H1 := Lib.hid h1
  obtain ⟨hst, _⟩ := Bool.and_eq_true_iff.1 h1
  obtain ⟨⟨h51, h52⟩, hg⟩ := str_parts hst
  have HG := Lib.hid hg
  clear hg
  clear hst
  obtain ⟨T, hT⟩ : ∃ T, thk l = T := ⟨_, rfl⟩
  have hTb := thk_bd HG.out
  rw [hT] at hTb
  obtain ⟨hT1, hT2⟩ := hTb
  have HTT := Lib.hid hT
  clear hT
  clear h1
  rcases h2 : inB d 0 T with _ | _
  · have H2 := Lib.hid h2
    have HO : Hid (ruO l num den d = none) := by unfold Hid ruO; exact if_neg (fun h => by have q := h2; simp only [reB, Bool.and_eq_true] at h; (try rw [HTT.out] at h); simp [reB, h] at q)
    clear h2
    go_enter Try.func34, Try.ntmps34
    go_wp2_with ((first | (go_at_call 110; refine (slope_spec _ _ _ l _ _ _ H1.out _ HS.out hm).mono ?_; rintro e w' ⟨rfl, rfl⟩) | (first | (go_at_call 111; refine (total_spec _ _ _ l T HTT.out _ HS.out HG.out (by omega)).mono ?_; rintro e w' ⟨rfl, rfl⟩) | (go_at_call 89; refine (l1In_v _ _ _ _ H2.out _).mono ?_; rintro e w' ⟨rfl, rfl⟩))))
    go_ret3
    exact q3_none HO.out (Below.refl _ _)
  have H2 := Lib.hid h2
  clear h2
  obtain ⟨hst, HSL⟩ := Bool.and_eq_true_iff.1 H1.out
  obtain ⟨hd0, hdT⟩ := inB_yes H2.out
  have HALL : (reB l d && slB num den) = true := by unfold reB; rw [hst, HTT.out, H2.out, HSL]; rfl
  clear hst
  obtain ⟨b, o, x0, y0, rfl, hbl, hl0, c00, c01⟩ := HS.out.2 0 (by omega)
  simp only [Nat.zero_mul, Nat.add_zero] at c00 c01
  have hy0 := (HG.out.at_ hl0).2
  obtain ⟨ym, hym⟩ : ∃ ym : Nat, y0 = ym := ⟨y0.toNat, by omega⟩
  subst hym
  have HL0 := Lib.hid hl0
  clear hl0 c00
  have hsl := sl_yes HSL
  obtain ⟨⟨hn1, hn2⟩, ⟨hd1, hd2⟩, hnd⟩ := hsl
  obtain ⟨dn, hdn⟩ : ∃ dn : Nat, den = dn := ⟨den.toNat, by omega⟩
  subst hdn
  obtain ⟨D, hD⟩ : ∃ D, dn * ym = D := ⟨_, rfl⟩
  have hDb : dn * ym ≤ 100 * 1700 := Nat.mul_le_mul (by omega) (by omega)
  have hDp : 0 < dn * ym := Nat.mul_pos (by omega) (by omega)
  rw [hD] at hDb hDp
  have hw2 : IntKind.i64.wrap ((dn : Int) * (ym : Int)) = (D : Int) := by rw [← hD, Int.natCast_mul]; exact IntWalk.i64_in _ (by rw [← Int.natCast_mul, hD]; omega)
  obtain ⟨v, hv⟩ : ∃ v, spr l d = v := ⟨_, rfl⟩
  have hvb := spr_bd HG.out (d := d) hd0
  rw [hv] at hvb
  obtain ⟨hv1, hv2⟩ := hvb
  obtain ⟨M, hM⟩ : ∃ M, num * v = M := ⟨_, rfl⟩
  have hMb := mulY_bd (a := num) (b := v) (m := 200) (n := 42500000) (by omega) (by omega) (by omega) (by omega)
  rw [hM] at hMb
  obtain ⟨hMb1, hMb2⟩ := hMb
  have hw1 : IntKind.i64.wrap (num * v) = M := by rw [hM]; exact IntWalk.i64_in _ (by omega)
  obtain ⟨r, hr⟩ : ∃ r, mkRat M D = r := ⟨_, rfl⟩
  have HO : Hid (ruO l num dn d = some r) := by unfold Hid; rw [ru_mk HALL HL0.out, hv, hM, hD, hr]
  have HR := Lib.hid hr
  have HV := Lib.hid hv
  clear hr hM hD hv
  go_enter Try.func34, Try.ntmps34
  go_wp2_with ((first | (go_at_call 110; refine (slope_spec _ _ _ l _ _ _ H1.out _ HS.out hm).mono ?_; rintro e w' ⟨rfl, rfl⟩) | (first | (go_at_call 111; refine (total_spec _ _ _ l T HTT.out _ HS.out HG.out (by omega)).mono ?_; rintro e w' ⟨rfl, rfl⟩) | (go_at_call 89; refine (l1In_v _ _ _ _ H2.out _).mono ?_; rintro e w' ⟨rfl, rfl⟩))))
  have lc0 := lcell (c01)
  refine region_later (W := w) (by kernel_rfl) (by kernel_rfl) (Below.refl _ _) ?_
  repeat (go_big_quiet_step (((first | (go_at_call 113; exact later_call (sum_spec _ _ l d v HV.out _ (spots_more HS.out (Later.below _)) HG.out (by omega) hc hcm hd0 (by omega))) | (go_at_call 112; exact later_call (reduceQ_spec M D r HR.out _ (by omega) (by omega) hDp (by omega)))))))
  refine wpQuiet_nil ?_
  intro W2 hW1
  have HL : Hid (Below w.heap.size w W2) := by obtain ⟨x, rfl⟩ := hW1; exact Lib.hid x.below
  clear hW1 lc0
  go_wp2_with fail
  go_ret3
  exact q3_some HO.out HL.out
set_option maxRecDepth 20000 in
set_option maxHeartbeats 3200000 in
theorem slopeFor_spec (A : Option Addr) (n c : Nat) (l : List (Int × Int)) (run : Int) (w : World) (hs : Spots w w.heap.size A n l) (hm : n ≤ maxLen) (hc : n ≤ c) (hcm : c ≤ maxLen) :
    Calls Try.prog 40 #[.slice A n c, .int .i64 run] w (Q3Post (sfO l run) w) := by
  obtain rfl := hs.1
  have hmx : l.length ≤ 9223372036854775807 := Nat.le_trans hm (by unfold maxLen; decide)
  have HS := Lib.hid hs
  clear hs
  rcases h1 : strB l with _ | _
  · have H1 := Lib.hid h1
    have HO : Hid (sfO l run = none) := by unfold Hid sfO; exact if_neg (fun h => by have q := h1; simp only [reB, Bool.and_eq_true] at h; simp [reB, h] at q)
    clear h1
    go_enter Try.func40, Try.ntmps40
    go_wp2_with ((first | (go_at_call 115; refine (goodS_v _ _ _ l _ H1.out _ HS.out hm).mono ?_; rintro e w' ⟨rfl, rfl⟩)))
    go_ret3
    exact q3_none HO.out (Below.refl _ _)
  have H1 := Lib.hid h1
  clear h1
  rcases h2 : inB run 0 60000 with _ | _
  · have H2 := Lib.hid h2
    have HO : Hid (sfO l run = none) := by unfold Hid sfO; exact if_neg (fun h => by have q := h2; simp only [reB, Bool.and_eq_true] at h; (try rw [HTT.out] at h); simp [reB, h] at q)
    clear h2
    go_enter Try.func40, Try.ntmps40
    go_wp2_with ((first | (go_at_call 115; refine (goodS_v _ _ _ l _ H1.out _ HS.out hm).mono ?_; rintro e w' ⟨rfl, rfl⟩) | (go_at_call 89; refine (l1In_v _ _ _ _ H2.out _).mono ?_; rintro e w' ⟨rfl, rfl⟩)))
    go_ret3
    exact q3_none HO.out (Below.refl _ _)
  have H2 := Lib.hid h2
  clear h2
  have HALL : (strB l && inB run 0 60000) = true := by rw [H1.out, H2.out]; rfl
  obtain ⟨hr0, hr1⟩ := inB_yes H2.out
  obtain ⟨⟨h51, h52⟩, hg⟩ := str_parts H1.out
  have HG := Lib.hid hg
  clear hg
  obtain ⟨T, hT⟩ : ∃ T, thk l = T := ⟨_, rfl⟩
  have hTb := thk_bd HG.out
  rw [hT] at hTb
  obtain ⟨hT1, hT2⟩ := hTb
  have HTT := Lib.hid hT
  obtain ⟨b, o, x0, y0, rfl, hbl, hl0, c00, c01⟩ := HS.out.2 0 (by omega)
  simp only [Nat.zero_mul, Nat.add_zero] at c00 c01
  have hy0 := (HG.out.at_ hl0).2
  obtain ⟨ym, hym⟩ : ∃ ym : Nat, y0 = ym := ⟨y0.toNat, by omega⟩
  subst hym
  have HL0 := Lib.hid hl0
  clear hl0 c00
  obtain ⟨vn, hvn⟩ : ∃ vn : Nat, spr l T = vn := ⟨(spr l T).toNat, by have := (spr_bd HG.out (d := T) (by omega)).1; omega⟩
  have hvb := spr_bd HG.out (d := T) (by omega)
  have hvp := spr_pos HG.out (d := T) (by omega) (by omega)
  rw [hvn] at hvb hvp
  obtain ⟨hv1, hv2⟩ := hvb
  obtain ⟨M, hM⟩ : ∃ M, run * (ym : Int) = M := ⟨_, rfl⟩
  have hMb := mulY_bd (a := run) (b := ym) (m := 60000) (n := 1700) (by omega) (by omega) (by omega) (by omega)
  rw [hM] at hMb
  obtain ⟨hMb1, hMb2⟩ := hMb
  have hw1 : IntKind.i64.wrap (run * (ym : Int)) = M := by rw [hM]; exact IntWalk.i64_in _ (by omega)
  obtain ⟨r, hr⟩ : ∃ r, mkRat M vn = r := ⟨_, rfl⟩
  have HO : Hid (sfO l run = some r) := by unfold Hid; rw [sf_mk HALL HL0.out (by rw [HTT.out]; exact hvn), hM, hr]
  have HR := Lib.hid hr
  have HV := Lib.hid hvn
  clear hr hM hvn
  clear hT
  go_enter Try.func40, Try.ntmps40
  go_wp2_with ((first | (go_at_call 115; refine (goodS_v _ _ _ l _ H1.out _ HS.out hm).mono ?_; rintro e w' ⟨rfl, rfl⟩) | (go_at_call 89; refine (l1In_v _ _ _ _ H2.out _).mono ?_; rintro e w' ⟨rfl, rfl⟩)))
  have lc0 := lcell (c01)
  refine region_later (W := w) (by kernel_rfl) (by kernel_rfl) (Below.refl _ _) ?_
  repeat (go_big_quiet_step (((first | (go_at_call 111; exact later_same (total_spec _ _ _ l T HTT.out _ (spots_more HS.out (Later.below _)) HG.out (by omega))) | (go_at_call 113; exact later_call (sum_spec _ _ l T vn HV.out _ (spots_more HS.out (Later.below _)) HG.out (by omega) hc hcm (by omega) (by omega))) | (go_at_call 112; exact later_call (reduceQ_spec M vn r HR.out _ (by omega) (by omega) (by omega) (by omega)))))))
  refine wpQuiet_nil ?_
  intro W2 hW1
  have HL : Hid (Below w.heap.size w W2) := by obtain ⟨x, rfl⟩ := hW1; exact Lib.hid x.below
  clear hW1 lc0
  go_wp2_with fail
  go_ret3
  exact q3_some HO.out HL.out
set_option maxRecDepth 20000 in
set_option maxHeartbeats 3200000 in
theorem downTime_spec (A : Option Addr) (n c : Nat) (l : List (Int × Int)) (d : Int) (w : World) (hs : Spots w w.heap.size A n l) (hm : n ≤ maxLen) (hc : n ≤ c) (hcm : c ≤ maxLen) :
    Calls Try.prog 52 #[.slice A n c, .int .i64 d] w (Q3Post (dtO l d) w) := by
  obtain rfl := hs.1
  have hmx : l.length ≤ 9223372036854775807 := Nat.le_trans hm (by unfold maxLen; decide)
  have HS := Lib.hid hs
  clear hs
  rcases h1 : strB l with _ | _
  · have H1 := Lib.hid h1
    have HO : Hid (dtO l d = none) := by unfold Hid dtO; exact if_neg (fun h => by have q := h1; simp only [reB, Bool.and_eq_true] at h; simp [reB, h] at q)
    clear h1
    go_enter Try.func52, Try.ntmps52
    go_wp2_with ((first | (go_at_call 115; refine (goodS_v _ _ _ l _ H1.out _ HS.out hm).mono ?_; rintro e w' ⟨rfl, rfl⟩)))
    go_ret3
    exact q3_none HO.out (Below.refl _ _)
  have H1 := Lib.hid h1
  obtain ⟨⟨h51, h52⟩, hg⟩ := str_parts h1
  have HG := Lib.hid hg
  clear hg
  obtain ⟨T, hT⟩ : ∃ T, thk l = T := ⟨_, rfl⟩
  have hTb := thk_bd HG.out
  rw [hT] at hTb
  obtain ⟨hT1, hT2⟩ := hTb
  have HTT := Lib.hid hT
  clear hT
  clear h1
  rcases h2 : inB d 0 T with _ | _
  · have H2 := Lib.hid h2
    have HO : Hid (dtO l d = none) := by unfold Hid dtO; exact if_neg (fun h => by have q := h2; simp only [reB, Bool.and_eq_true] at h; (try rw [HTT.out] at h); simp [reB, h] at q)
    clear h2
    go_enter Try.func52, Try.ntmps52
    go_wp2_with ((first | (go_at_call 115; refine (goodS_v _ _ _ l _ H1.out _ HS.out hm).mono ?_; rintro e w' ⟨rfl, rfl⟩) | (first | (go_at_call 111; refine (total_spec _ _ _ l T HTT.out _ HS.out HG.out (by omega)).mono ?_; rintro e w' ⟨rfl, rfl⟩) | (go_at_call 89; refine (l1In_v _ _ _ _ H2.out _).mono ?_; rintro e w' ⟨rfl, rfl⟩))))
    go_ret3
    exact q3_none HO.out (Below.refl _ _)
  have H2 := Lib.hid h2
  clear h2
  obtain ⟨hd0, hdT⟩ := inB_yes H2.out
  have HALL : reB l d = true := by unfold reB; rw [H1.out, HTT.out, H2.out]; rfl
  obtain ⟨r, hr⟩ : ∃ r, tmQ l d = r := ⟨_, rfl⟩
  have HO : Hid (dtO l d = some r) := by unfold Hid dtO; rw [if_pos HALL, hr]
  have HR := Lib.hid hr
  clear hr
  go_enter Try.func52, Try.ntmps52
  go_wp2_with ((first | (go_at_call 115; refine (goodS_v _ _ _ l _ H1.out _ HS.out hm).mono ?_; rintro e w' ⟨rfl, rfl⟩) | (first | (go_at_call 111; refine (total_spec _ _ _ l T HTT.out _ HS.out HG.out (by omega)).mono ?_; rintro e w' ⟨rfl, rfl⟩) | (go_at_call 89; refine (l1In_v _ _ _ _ H2.out _).mono ?_; rintro e w' ⟨rfl, rfl⟩))))
  refine (timeS_spec _ _ l d r HR.out _ HS.out HG.out (by omega) hc hcm hd0 (by omega)).mono ?_
  rintro e w2 ⟨rfl, hb⟩
  have HB2 := Lib.hid hb
  clear hb
  go_wp2_with fail
  go_ret3
  exact q3_some HO.out HB2.out
end Go.Proofs.Ytdmnkmdlochogab
