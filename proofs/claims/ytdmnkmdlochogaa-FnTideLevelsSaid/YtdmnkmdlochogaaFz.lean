/-
  Plain facts for laws.FnTideLevels, and contract of laws.vTides over this translation. Conditions: stated at each theorem.
-/
import Derived.Test.YtdmnkmdlochogaaTb
import Derived.Test.YtdmnkmdlochogaaTr
import Derived.Test.YtdmnkmdlochogaaFh
namespace Go.Proofs.Ytdmnkmdlochogaa
open Go.RowKit

theorem rs_get (l : List (Int × Int)) (x : Int) (k : Nat) : (rsL l x)[k]? = (l[k]?).map (rsP x) := by unfold rsL; rw [List.getElem?_map]
theorem rs_tm (l : List (Int × Int)) (x : Int) (k : Nat) : tmAt (rsL l x) k = tmAt l k := by
  unfold tmAt
  rw [List.getD_eq_getElem?_getD, List.getD_eq_getElem?_getD, rs_get]
  cases l[k]? <;> rfl
theorem rs_lv {l : List (Int × Int)} (ht : tideB l = true) {k : Nat} (hk : k < l.length) : lvAt (rsL l 10) k = lvAt l k + 10 := by
  have hb := (tide_at ht hk).2
  have hq : lvAt (rsL l 10) k = wrap64 (lvAt l k + 10) := by
    unfold lvAt
    rw [List.getD_eq_getElem?_getD, List.getD_eq_getElem?_getD, rs_get, List.getElem?_eq_getElem hk]
    rfl
  rw [hq]; unfold wrap64; omega
theorem rs_lb (l : List (Int × Int)) (x t : Int) : lbK (rsL l x) t = lbK l t := by
  unfold lbK rsL
  rw [List.findIdx_map]
  rfl
theorem raise_level {l : List (Int × Int)} {t : Int} (ht : tideB l = true) (hk : lvK l t = true) : lvK (rsL l 10) t = true ∧ lvD (rsL l 10) t = lvD l t ∧ lvN (rsL l 10) t = lvN l t + 10 * lvD l t := by
  have hh : lvHit (rsL l 10) t = lvHit l t := by unfold lvHit hitB; rw [rs_lb, rs_tm, rsL_len]
  have hK : lvK (rsL l 10) t = lvK l t := by unfold lvK; rw [hh, rs_lb, rs_tm, rs_tm, rsL_len]
  have hD : lvD (rsL l 10) t = lvD l t := by unfold lvD; rw [hh, rs_lb, rs_tm, rs_tm]
  refine ⟨hK.trans hk, hD, ?_⟩
  have ha := tide_asc ht
  rcases hit : lvHit l t with _ | _
  · have hc : 0 < lbK l t ∧ lbK l t < l.length ∧ tmAt l (lbK l t) - tmAt l (lbK l t - 1) ≤ 60 := by
      unfold lvK at hk
      rw [hit, Bool.false_or] at hk
      exact of_decide_eq_true hk
    have hlt := ha (lbK l t - 1) (lbK l t) (by omega) hc.2.1
    unfold lvN lvD
    rw [hh, hit, rs_lb, rs_tm, rs_tm, rs_lv ht hc.2.1, rs_lv ht (show lbK l t - 1 < l.length by omega)]
    simp only [Bool.false_eq_true, if_false]
    rw [Int.add_mul, Int.add_mul]
    omega
  · have hlt : lbK l t < l.length := by
      unfold lvHit hitB at hit
      exact (of_decide_eq_true hit).1
    unfold lvN lvD
    rw [hh, hit, rs_lb, rs_lv ht hlt]
    simp
theorem rp_parts {l : List (Int × Int)} {x t : Int} (h : rpK l x t = true) : loK l t = true ∧ 0 ≤ x ∧ x ≤ 30000 := by
  unfold rpK at h
  rw [Bool.and_eq_true] at h
  exact ⟨h.1, inB_yes h.2⟩
theorem rp_raise {l : List (Int × Int)} {x t : Int} (h : rpK l x t = true) (hr : tideB (rsL l 10) = true) : rpK (rsL l 10) x t = true ∧ rpV (rsL l 10) x t = rpV l x t - 10 := by
  have hp := rp_parts h
  have h1 := lo_parts hp.1
  have hl := raise_level h1.1 h1.2.1
  have hd := lv_bd h1.1 h1.2.1
  have hlo : loK (rsL l 10) t = true := by
    have h2 := hp.1
    unfold loK askK at h2 ⊢
    rw [hr, hl.1]
    rw [h1.1, h1.2.1] at h2
    exact h2
  have hK : rpK (rsL l 10) x t = true := by unfold rpK; rw [hlo, inB_mk hp.2.1 hp.2.2]; rfl
  refine ⟨hK, ?_⟩
  unfold rpV
  rw [hK, h, if_pos rfl, if_pos rfl, hl.2.1, hl.2.2, show x * (lvD l t : Int) - (lvN l t + 10 * (lvD l t : Int)) = (x * (lvD l t : Int) - lvN l t) + (-10) * (lvD l t : Int) by omega, Int.add_mul_ediv_right _ _ (by omega)]
  omega
/-- A reduced depth and the level. -/
theorem rp_level {l : List (Int × Int)} {x t : Int} (h : rpK l x t = true) : (rpV l x t * (rlD l t : Int) ≤ x * (rlD l t : Int) - rlN l t ∧ x * (rlD l t : Int) - rlN l t < (rpV l x t + 1) * (rlD l t : Int)) ∧ (-200000 ≤ rpV l x t ∧ rpV l x t ≤ 200000) := by
  have hp := rp_parts h
  have h1 := lo_parts hp.1
  have hd := lv_bd h1.1 h1.2.1
  have hb := rl_bd h1.1 h1.2.1
  have hf := rl_floor (l := l) (t := t) (by omega) x
  have hV : rpV l x t = (x * (rlD l t : Int) - rlN l t) / (rlD l t : Int) := by unfold rpV; rw [h, if_pos rfl, hf]
  have pd : (0 : Int) < rlD l t := by omega
  have m := dep_bd (x := x) (d := rlD l t) hp.2 hb.1.2
  have a1 := Int.ediv_mul_le (x * (rlD l t : Int) - rlN l t) (show (rlD l t : Int) ≠ 0 by omega)
  have a2 := Int.lt_ediv_add_one_mul_self (x * (rlD l t : Int) - rlN l t) pd
  rw [hV]
  refine ⟨⟨a1, a2⟩, ?_⟩
  obtain ⟨q, hq⟩ : ∃ q, q = (x * (rlD l t : Int) - rlN l t) / (rlD l t : Int) := ⟨_, rfl⟩
  rw [← hq] at a1 a2 ⊢
  constructor
  · by_cases hlt : q < -200000
    · exfalso
      have h3 := Int.mul_le_mul_of_nonneg_right (show q + 1 ≤ -200000 by omega) (Int.le_of_lt pd)
      omega
    · omega
  · by_cases hlt : 200000 < q
    · exfalso
      have h3 := Int.mul_le_mul_of_nonneg_right (show 200001 ≤ q by omega) (Int.le_of_lt pd)
      have h4 := Int.mul_le_mul_of_nonneg_right (show x ≤ 30000 from hp.2.2) (Int.le_of_lt pd)
      omega
    · omega
theorem rl_le {l : List (Int × Int)} {t : Int} (h : 0 < lvD l t) (v : Int) : (rlN l t ≤ v * rlD l t) ↔ (lvN l t ≤ v * lvD l t) := by
  obtain ⟨g, hg, _, hn, hd⟩ := rl_mul h
  have hg' : (0 : Int) < g := Int.natCast_pos.2 hg
  have e : v * (lvD l t : Int) = g * (v * rlD l t) := by rw [hd, Int.natCast_mul, ← Int.mul_assoc, Int.mul_comm v, Int.mul_assoc]
  rw [e, hn]
  exact (Int.mul_le_mul_left hg').symm
theorem lo_between {l : List (Int × Int)} {t lo hi : Int} (h : loK l t = true) (hb : ∀ k, k < l.length → lo ≤ lvAt l k ∧ lvAt l k ≤ hi) : lo * (rlD l t : Int) ≤ rlN l t ∧ rlN l t ≤ hi * (rlD l t : Int) := by
  have h1 := lo_parts h
  have h2 := lv_between (tide_asc h1.1) h1.2.1 hb
  exact ⟨(rl_has (by omega) lo).2 h2.2.1, (rl_le (by omega) hi).2 h2.2.2⟩
theorem bw_sym (a b : List (Int × Int)) (x y t : Int) : bwK b a y x t = bwK a b x y t ∧ bwN b a y x t = bwN a b x y t ∧ bwD b a y x t = bwD a b x y t := by
  have hK : bwK b a y x t = bwK a b x y t := by unfold bwK; rw [Bool.and_comm (loK b t), Bool.and_comm (inB y 1 10000)]
  have hM : bwM b a y x t = bwM a b x y t := by unfold bwM; rw [Int.add_comm]
  have hE : bwE b a y x t = bwE a b x y t := by unfold bwE; rw [Int.add_comm y x, Nat.mul_right_comm]
  refine ⟨hK, ?_, ?_⟩
  · unfold bwN; rw [hK, hM, hE]
  · unfold bwD; rw [hK, hM, hE]
set_option maxHeartbeats 800000 in
theorem vT_same (A A' : Option Addr) (n c c' : Nat) (l : List (Int × Int)) (w : World) (h1 : Spots w w.heap.size A n l) (h2 : Spots w w.heap.size A' n l) (hm : n ≤ maxLen) :
    Calls Try.prog 43 #[.slice A n c, .slice A' n c'] w fun e w' => e = .returned (.bool true) ∧ Below w.heap.size w w' := by
  unfold maxLen at hm
  go_enter Try.func43, Try.ntmps43
  go_wp2
  go_loopw [5] (fun i wr => ∃ k : Nat, k ≤ n ∧ i = .int .i64 k ∧ Hid (Below w.heap.size w wr)) (fun i _ => n - (intOf i).toNat)
  case atStart => exact ⟨0, Nat.zero_le _, rfl, Lib.hid (Below.refl _ _)⟩
  case round =>
    obtain ⟨k, hk, rfl, hB⟩ := hrel
    by_cases hlt : k < n
    · obtain ⟨b1, o1, x, y, rfl, hb1, hl1, hc0, hc1⟩ := (h1.on hB.out (Nat.le_refl _)).2 k hlt
      obtain ⟨b2, o2, x2, y2, rfl, hb2, hl2, hd0, hd1⟩ := (h2.on hB.out (Nat.le_refl _)).2 k hlt
      have e : (x, y) = (x2, y2) := Option.some.inj (hl1.symm.trans hl2)
      obtain ⟨rfl, rfl⟩ := Prod.mk.inj e
      clear hl1 hl2 e
      go_wp2_with fail
      have lc0 := lcell (hc0)
      have lc1 := lcell (hc1)
      have lc2 := lcell (hd0)
      have lc3 := lcell (hd1)
      refine region_later (W := wr) (by kernel_rfl) (by kernel_rfl) (Below.refl _ _) ?_
      repeat (go_big_quiet_step (fail))
      refine wpQuiet_nil ?_
      intro W1 hW1
      have HL : Hid (Below wr.heap.size wr W1) := by obtain ⟨x, rfl⟩ := hW1; exact Lib.hid x.below
      clear hW1 lc0 lc1 lc2 lc3
      have HT := Lib.hid (bthen hB.out HL.out hB.out.size)
      go_wp2_with fail
      go_roundw
      case rel => exact ⟨k + 1, by omega, by go_num, HT⟩
      case measure => simp [intOf]; omega
    · go_wp2_with fail
      go_ret
      exact ⟨rfl, hB.out⟩
end Go.Proofs.Ytdmnkmdlochogaa
