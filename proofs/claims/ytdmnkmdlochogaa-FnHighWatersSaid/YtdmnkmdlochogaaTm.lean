/-
  Minutes with a level: contracts of impl.fraction.isAtLeast, impl.isUpTo, spec.l4Has, spec.l4Span, impl.MinutesWith, spec.MinutesWith, impl.FirstMinuteWith, spec.FirstMinuteWith over this translation. Conditions: stated at each theorem.
-/
import Derived.Test.YtdmnkmdlochogaaTq
import Derived.Test.YtdmnkmdlochogaaTw
namespace Go.Proofs.Ytdmnkmdlochogaa
open Go.RowKit

theorem lvl_bd {v : Int} {d : Nat} (h1 : -1000 ≤ v ∧ v ≤ 2000) (h2 : d ≤ 60) : -60000 ≤ v * (d : Int) ∧ v * (d : Int) ≤ 120000 := by
  have a := Int.mul_le_mul_of_nonneg_right h1.1 (Int.natCast_nonneg d)
  have b := Int.mul_le_mul_of_nonneg_right h1.2 (Int.natCast_nonneg d)
  omega
theorem atLeast_any (N : Int) (D : Nat) (v : Int) (r : Bool) (hr : decide (v * D ≤ N) = r) (w : World) (h2 : D ≤ 60) (hv : -1000 ≤ v ∧ v ≤ 2000) :
    Calls Try.prog 167 #[.agg #[.int .i64 N, .int .i64 D], .int .i64 v] w fun e w' => e = .returned (.bool r) ∧ Below w.heap.size w w' := by
  have hb := lvl_bd hv h2
  obtain ⟨hb1, hb2⟩ := hb
  have HX := Lib.hid (box1 (cs := #[.int .i64 N, .int .i64 D]) (T := 124) (Below.refl _ _) (w := w))
  by_cases hc : v * D ≤ N
  · have H : Hid (r = true) := by unfold Hid; rw [← hr]; exact decide_eq_true hc
    clear hr
    go_enter Try.func167, Try.ntmps167
    go_wp2_with fail
    go_ret
    exact ⟨ret_bool H.out.symm, HX.out.1⟩
  · have H : Hid (r = false) := by unfold Hid; rw [← hr]; exact decide_eq_false hc
    clear hr
    go_enter Try.func167, Try.ntmps167
    go_wp2_with fail
    go_ret
    exact ⟨ret_bool H.out.symm, HX.out.1⟩
theorem has_no {l : List (Int × Int)} {v t : Int} (h : lvK l t = false) : lvHas l v t = false := by unfold lvHas; rw [h]; rfl
theorem has_at {l : List (Int × Int)} {v t : Int} (h : lvK l t = true) : lvHas l v t = decide (v * lvD l t ≤ lvN l t) := by unfold lvHas; rw [h]; rfl
theorem has_red {l : List (Int × Int)} (ht : tideB l = true) {v t : Int} (h : lvK l t = true) : lvHas l v t = decide (v * rlD l t ≤ rlN l t) := by
  rw [has_at h]
  have := lv_bd ht h
  exact decide_eq_decide.2 (rl_has (by omega) v).symm
theorem lo_of {l : List (Int × Int)} {t : Int} (ht : tideB l = true) (h0 : 0 ≤ t) (h1 : t ≤ 10000) : loK l t = lvK l t := by
  unfold loK askK; rw [ht, inB_mk h0 h1]; rfl
set_option maxRecDepth 20000 in
set_option maxHeartbeats 800000 in
theorem upTo_impl (A : Option Addr) (n c : Nat) (l : List (Int × Int)) (v t : Int) (r : Bool) (hr : lvHas l v t = r) (w : World) (hs : Spots w w.heap.size A n l) (hm : n ≤ maxLen) (ht : tideB l = true) (h0 : 0 ≤ t) (h1 : t ≤ 10000) (hv : -1000 ≤ v ∧ v ≤ 2000) :
    Calls Try.prog 117 #[.slice A n c, .int .i64 v, .int .i64 t] w fun e w' => e = .returned (.bool r) ∧ Below w.heap.size w w' := by
  have HS := Lib.hid hs
  subst hr
  clear hs
  have hlo := lo_of ht h0 h1
  rcases hk : lvK l t with _ | _
  · rw [hk] at hlo
    have HQ := Lib.hid (And.intro (lo_none hlo) hlo)
    have HR := Lib.hid (has_no (v := v) hk)
    clear hk hlo
    go_enter Try.func117, Try.ntmps117
    go_wp2_with fail
    refine (levelOf_v _ _ _ l t _ _ _ HQ.out.1.1 HQ.out.1.2 HQ.out.2 _ HS.out hm).mono ?_
    rintro e w1 ⟨rfl, hb⟩
    have HT := Lib.hid (hb.alloc hb.size (.cells #[.int .i64 0, .int .i64 0] 124))
    clear hb
    go_wp2_with fail
    go_ret
    exact ⟨ret_bool HR.out.symm, HT.out⟩
  · rw [hk] at hlo
    have hp := lo_parts hlo
    have hbd := rl_bd ht hk
    have hrd := has_red (v := v) ht hk
    obtain ⟨N, hN⟩ : ∃ N, N = rlN l t := ⟨_, rfl⟩
    obtain ⟨D, hD⟩ : ∃ D, D = rlD l t := ⟨_, rfl⟩
    rw [← hN, ← hD] at hbd hp hrd
    have HQ := Lib.hid (And.intro hp.2.2 hlo)
    have HR := Lib.hid hrd
    clear hk hlo hp hrd hN hD
    go_enter Try.func117, Try.ntmps117
    go_wp2_with fail
    refine (levelOf_v _ _ _ l t _ _ _ HQ.out.1.1 HQ.out.1.2 HQ.out.2 _ HS.out hm).mono ?_
    rintro e w1 ⟨rfl, hb⟩
    obtain ⟨W0, hW0⟩ : ∃ W0, W0 = w1.alloc (.cells #[.int .i64 N, .int .i64 D] 124) := ⟨_, rfl⟩
    have HW := frac_box hb hW0
    have HE := Lib.hid hW0
    clear hb hW0
    have a0 := HW.out.2.1.at_ 0 _ rfl
    have a1 := HW.out.2.1.at_ 1 _ rfl
    go_wp2_with fail
    rw [← HE.out]
    refine (atLeast_any N D v _ HR.out.symm _ hbd.1.2 hv).mono ?_
    rintro e w2 ⟨rfl, hb⟩
    have HT := Lib.hid (bthen HW.out.1 hb HW.out.1.size)
    clear hb
    go_wp2_with fail
    go_ret
    exact ⟨rfl, HT.out⟩
set_option maxHeartbeats 800000 in
theorem has_spec (A : Option Addr) (n c : Nat) (l : List (Int × Int)) (v t : Int) (r : Bool) (hr : lvHas l v t = r) (w : World) (hs : Spots w w.heap.size A n l) (ht : tideB l = true) (h0 : 0 ≤ t) (h1 : t ≤ 10000) (hv : -1000 ≤ v ∧ v ≤ 2000) :
    Calls Try.prog 119 #[.slice A n c, .int .i64 v, .int .i64 t] w fun e w' => e = .returned (.bool r) ∧ Below w.heap.size w w' := by
  have HS := Lib.hid hs
  subst hr
  clear hs
  have HA : Hid (askK l t = true) := by unfold Hid askK; rw [ht, inB_mk h0 h1]; rfl
  rcases hk : lvK l t with _ | _
  · have HQ : Hid (l4N l t = 0 ∧ l4D l t = 0 ∧ lvK l t = false) := by unfold Hid l4N l4D; rw [hk]; exact ⟨rfl, rfl, rfl⟩
    have HR := Lib.hid (has_no (v := v) hk)
    clear hk
    go_enter Try.func119, Try.ntmps119
    go_wp2_with fail
    refine (asked_at _ _ _ l t _ _ _ HQ.out.1 HQ.out.2.1 HQ.out.2.2 _ HS.out HA.out).mono ?_
    rintro e w1 ⟨rfl, hb⟩
    have HT := Lib.hid hb
    clear hb
    go_wp2_with fail
    go_ret
    exact ⟨ret_bool HR.out.symm, HT.out⟩
  · have HQ : Hid (l4N l t = lvN l t ∧ l4D l t = (lvD l t : Nat) ∧ lvK l t = true) := by unfold Hid l4N l4D; rw [hk]; exact ⟨rfl, rfl, rfl⟩
    have hbd := lv_bd ht hk
    have hrd := has_at (v := v) hk
    obtain ⟨N, hN⟩ : ∃ N, N = lvN l t := ⟨_, rfl⟩
    obtain ⟨D, hD⟩ : ∃ D, D = lvD l t := ⟨_, rfl⟩
    rw [← hN, ← hD] at HQ hbd hrd
    clear hk hN hD
    have hb := lvl_bd hv hbd.1.2
    obtain ⟨hb1, hb2⟩ := hb
    by_cases hc : v * (D : Int) ≤ N
    · have HR : Hid (lvHas l v t = true) := hrd.trans (decide_eq_true hc)
      clear hrd
      go_enter Try.func119, Try.ntmps119
      go_wp2_with fail
      refine (asked_at _ _ _ l t _ _ _ HQ.out.1 HQ.out.2.1 HQ.out.2.2 _ HS.out HA.out).mono ?_
      rintro e w1 ⟨rfl, hb⟩
      have HT := Lib.hid hb
      clear hb
      go_wp2_with fail
      go_ret
      exact ⟨ret_bool HR.out.symm, HT.out⟩
    · have HR : Hid (lvHas l v t = false) := hrd.trans (decide_eq_false hc)
      have HD := Lib.hid (decide_eq_false hc)
      clear hrd
      go_enter Try.func119, Try.ntmps119
      go_wp2_with fail
      refine (asked_at _ _ _ l t _ _ _ HQ.out.1 HQ.out.2.1 HQ.out.2.2 _ HS.out HA.out).mono ?_
      rintro e w1 ⟨rfl, hb⟩
      have HT := Lib.hid hb
      clear hb
      go_wp2_with fail
      go_ret
      first
        | exact ⟨ret_bool HR.out.symm, HT.out⟩
        | exact ⟨ret_bool (HD.out.trans HR.out.symm), HT.out⟩

/-! ### A span of minutes -/
def spK (l : List (Int × Int)) (a b : Int) : Bool := askK l a && inB b 0 10000 && decide (a ≤ b)
theorem sp_parts {l : List (Int × Int)} {a b : Int} (h : spK l a b = true) : tideB l = true ∧ 0 ≤ a ∧ a ≤ b ∧ b ≤ 10000 := by
  unfold spK at h
  simp only [Bool.and_eq_true, decide_eq_true_eq] at h
  have := ask_yes h.1.1
  have := inB_yes h.1.2
  exact ⟨(ask_yes h.1.1).1, by omega, h.2, by omega⟩
theorem span_spec (A : Option Addr) (n c : Nat) (l : List (Int × Int)) (a b : Int) (v : Bool) (h : spK l a b = v) (w : World) (hs : Spots w w.heap.size A n l) (hm : n ≤ maxLen) :
    Calls Try.prog 116 #[.slice A n c, .int .i64 a, .int .i64 b] w fun e w' => e = .returned (.bool v) ∧ Below w.heap.size w w' := by
  have HS := Lib.hid hs
  subst h
  clear hs
  rcases ha : askK l a with _ | _
  · have HR : Hid (spK l a b = false) := by unfold Hid spK; rw [ha]; rfl
    have HA := Lib.hid ha
    clear ha
    go_enter Try.func116, Try.ntmps116
    go_wp2_with fail
    refine (asked_spec _ _ _ l a _ HA.out _ HS.out hm).mono ?_
    rintro e w1 ⟨rfl, hb⟩
    have HB := Lib.hid hb
    clear hb
    go_wp2_with fail
    go_ret
    exact ⟨ret_bool HR.out.symm, HB.out⟩
  have HA := Lib.hid ha
  rcases hi : inB b 0 10000 with _ | _
  · have HR : Hid (spK l a b = false) := by unfold Hid spK; rw [ha, hi]; rfl
    have HI := Lib.hid hi
    clear ha hi
    go_enter Try.func116, Try.ntmps116
    go_wp2_with fail
    refine (asked_spec _ _ _ l a _ HA.out _ HS.out hm).mono ?_
    rintro e w1 ⟨rfl, hb⟩
    have HB := Lib.hid hb
    clear hb
    go_wp2_with fail
    refine (time_spec _ _ HI.out _).mono ?_
    rintro e w' ⟨rfl, rfl⟩
    go_wp2_with fail
    go_ret
    exact ⟨ret_bool HR.out.symm, HB.out⟩
  have HI := Lib.hid hi
  by_cases hc : a ≤ b
  all_goals
    have HR : Hid (spK l a b = decide (a ≤ b)) := by unfold Hid spK; rw [ha, hi]; rfl
    have HC := Lib.hid hc
    clear ha hi
    go_enter Try.func116, Try.ntmps116
    go_wp2_with fail
    refine (asked_spec _ _ _ l a _ HA.out _ HS.out hm).mono ?_
    rintro e w1 ⟨rfl, hb⟩
    have HB := Lib.hid hb
    clear hb
    go_wp2_with fail
    refine (time_spec _ _ HI.out _).mono ?_
    rintro e w' ⟨rfl, rfl⟩
    go_wp2_with fail
    go_ret
    first
      | exact ⟨ret_bool (HR.out.trans (decide_eq_true (by have := HC.out; omega))).symm, HB.out⟩
      | exact ⟨ret_bool HR.out.symm, HB.out⟩
      | exact ⟨ret_bool (HR.out.trans (decide_eq_false (by have := HC.out; omega))).symm, HB.out⟩

/-! ### MinutesWith -/
def cntK (l : List (Int × Int)) (v a : Int) (k : Nat) : Nat := ((List.range k).filter fun j : Nat => lvHas l v (a + (j : Int))).length
theorem cnt_yes {l : List (Int × Int)} {v a : Int} {k : Nat} (h : lvHas l v (a + k) = true) : cntK l v a (k + 1) = cntK l v a k + 1 := by
  unfold cntK; rw [List.range_succ, List.filter_append]; simp [h]
theorem cnt_no {l : List (Int × Int)} {v a : Int} {k : Nat} (h : lvHas l v (a + k) = false) : cntK l v a (k + 1) = cntK l v a k := by
  unfold cntK; rw [List.range_succ, List.filter_append]; simp [h]
def mwK (l : List (Int × Int)) (v a b : Int) : Bool := spK l a b && inB v (-1000) 2000
def mwV (l : List (Int × Int)) (v a b : Int) : Int := if mwK l v a b then (cntK l v a (b - a + 1).toNat : Int) else 0
def MwPost (l : List (Int × Int)) (v a b : Int) (w : World) (e : Ending) (w' : World) : Prop :=
  e = .returned (.tuple #[.int .i64 (mwV l v a b), .bool (mwK l v a b)]) ∧ Below w.heap.size w w'
theorem mw_no {l : List (Int × Int)} {v a b : Int} {w w' : World} (h : mwK l v a b = false) (hb : Below w.heap.size w w') : MwPost l v a b w (.returned (.tuple #[.int .i64 0, .bool false])) w' :=
  ⟨by unfold mwV; rw [h]; rfl, hb⟩
theorem mw_yes {l : List (Int × Int)} {v a b : Int} {m k : Nat} {w w' : World} (h : mwK l v a b = true) (hm : m = cntK l v a k) (hk : a + k = b + 1) (hb : Below w.heap.size w w') : MwPost l v a b w (.returned (.tuple #[.int .i64 m, .bool true])) w' :=
  ⟨by unfold mwV; rw [h, if_pos rfl, hm, show (b - a + 1).toNat = k by omega], hb⟩
/-- What the loop over the minutes keeps. -/
def MwInv (l : List (Int × Int)) (v a b : Int) (w : World) (p q : Value) (wr : World) : Prop :=
  ∃ m k : Nat, m ≤ k ∧ a + k ≤ b + 1 ∧ p = .int .i64 m ∧ q = .int .i64 (a + k) ∧ Hid (m = cntK l v a k) ∧ Hid (Below w.heap.size w wr)
set_option maxRecDepth 20000 in
set_option maxHeartbeats 1600000 in
theorem minutes_spec (A : Option Addr) (n c : Nat) (l : List (Int × Int)) (v a b : Int) (w : World) (hs : Spots w w.heap.size A n l) (hm : n ≤ maxLen) :
    Calls Try.prog 55 #[.slice A n c, .int .i64 v, .int .i64 a, .int .i64 b] w (MwPost l v a b w) := by
  have HS := Lib.hid hs
  clear hs
  rcases hp : spK l a b with _ | _
  · have HR : Hid (mwK l v a b = false) := by unfold Hid mwK; rw [hp]; rfl
    have HP := Lib.hid hp
    clear hp
    go_enter Try.func55, Try.ntmps55
    go_wp2_with fail
    refine (span_spec _ _ _ l a b _ HP.out _ HS.out hm).mono ?_
    rintro e w1 ⟨rfl, hb⟩
    have HB := Lib.hid hb
    clear hb
    go_wp2_with fail
    go_ret2
    exact mw_no HR.out HB.out
  have HPK := Lib.hid hp
  have HP := Lib.hid (sp_parts hp)
  rcases hi : inB v (-1000) 2000 with _ | _
  · have HR : Hid (mwK l v a b = false) := by unfold Hid mwK; rw [hp, hi]; rfl
    have HI := Lib.hid hi
    clear hp hi
    go_enter Try.func55, Try.ntmps55
    go_wp2_with fail
    refine (span_spec _ _ _ l a b _ HPK.out _ HS.out hm).mono ?_
    rintro e w1 ⟨rfl, hb⟩
    have HB := Lib.hid hb
    clear hb
    go_wp2_with fail
    refine (tlevel_spec _ _ HI.out _).mono ?_
    rintro e w' ⟨rfl, rfl⟩
    go_wp2_with fail
    go_ret2
    exact mw_no HR.out HB.out
  have HI := Lib.hid hi
  have hv := inB_yes hi
  obtain ⟨hp1, hp2, hp3⟩ := HP.out.2
  have HK : Hid (mwK l v a b = true) := by unfold Hid mwK; rw [hp, hi]; rfl
  clear hp hi
  go_enter Try.func55, Try.ntmps55
  go_wp2_with fail
  refine (span_spec _ _ _ l a b _ HPK.out _ HS.out hm).mono ?_
  rintro e w1 ⟨rfl, hb⟩
  have HB0 := Lib.hid hb
  clear hb
  go_wp2_with fail
  refine (tlevel_spec _ _ HI.out _).mono ?_
  rintro e w' ⟨rfl, rfl⟩
  go_wp2_with fail
  go_loopw [10, 11] (MwInv l v a b w) (fun _ i _ => (b + 1 - intOf i).toNat)
  case atStart => exact ⟨0, 0, Nat.le_refl _, by omega, rfl, congrArg (Value.int .i64) (by omega), Lib.hid (by simp [cntK]), HB0⟩
  case round =>
    obtain ⟨m, k, hmk, hk, rfl, rfl, hM, hB⟩ := hrel
    have HSr := Lib.hid (spots_at HS.out hB.out)
    by_cases hlt : a + (k : Int) ≤ b
    · rcases hh : lvHas l v (a + k) with _ | _
      · have HH := Lib.hid hh
        have HM : Hid (m = cntK l v a (k + 1)) := hM.out.trans (cnt_no hh).symm
        clear hh
        go_wp2_with fail
        refine (has_spec _ _ _ l v _ _ HH.out _ HSr.out HP.out.1 (by omega) (by omega) hv).mono ?_
        rintro e w1 ⟨rfl, hb⟩
        have HB := Lib.hid (bthen hB.out hb hB.out.size)
        clear hb
        go_wp2_with fail
        go_roundw
        case rel => exact ⟨m, k + 1, by omega, by omega, rfl, by go_num, HM, HB⟩
        case measure => simp [intOf]; omega
      · have HH := Lib.hid hh
        have HM : Hid (m + 1 = cntK l v a (k + 1)) := (congrArg (· + 1) hM.out).trans (cnt_yes hh).symm
        clear hh
        go_wp2_with fail
        refine (has_spec _ _ _ l v _ _ HH.out _ HSr.out HP.out.1 (by omega) (by omega) hv).mono ?_
        rintro e w1 ⟨rfl, hb⟩
        have HB := Lib.hid (bthen hB.out hb hB.out.size)
        clear hb
        go_wp2_with fail
        go_roundw
        case rel => exact ⟨m + 1, k + 1, by omega, by omega, by go_num, by go_num, HM, HB⟩
        case measure => simp [intOf]; omega
    · have hke : a + (k : Int) = b + 1 := by omega
      go_wp2_with fail
      go_ret2
      exact mw_yes HK.out hM.out hke hB.out
set_option maxRecDepth 20000 in
set_option maxHeartbeats 1600000 in
theorem minutes_impl (A : Option Addr) (n c : Nat) (l : List (Int × Int)) (v a b : Int) (w : World) (hs : Spots w w.heap.size A n l) (hm : n ≤ maxLen) :
    Calls Try.prog 53 #[.slice A n c, .int .i64 v, .int .i64 a, .int .i64 b] w (MwPost l v a b w) := by
  have HS := Lib.hid hs
  clear hs
  rcases ht : tideB l with _ | _
  · have HR : Hid (mwK l v a b = false) := by unfold Hid mwK spK askK; rw [ht]; rfl
    have HT := Lib.hid ht
    clear ht
    go_enter Try.func53, Try.ntmps53
    go_wp2_with fail
    refine (isT_v _ _ _ l _ HT.out _ HS.out hm).mono ?_
    rintro e w1 ⟨rfl, hb⟩
    have HB := Lib.hid hb
    clear hb
    go_wp2_with fail
    go_ret2
    exact mw_no HR.out HB.out
  have HT := Lib.hid ht
  rcases hi : inB v (-1000) 2000 with _ | _
  · have HR : Hid (mwK l v a b = false) := by unfold Hid mwK; rw [hi, Bool.and_false]
    have HI := Lib.hid hi
    clear ht hi
    go_enter Try.func53, Try.ntmps53
    go_wp2_with fail
    refine (isT_v _ _ _ l _ HT.out _ HS.out hm).mono ?_
    rintro e w1 ⟨rfl, hb⟩
    have HB := Lib.hid hb
    clear hb
    go_wp2_with fail
    refine (tlevel_impl _ _ HI.out _).mono ?_
    rintro e w' ⟨rfl, rfl⟩
    go_wp2_with fail
    go_ret2
    exact mw_no HR.out HB.out
  have HI := Lib.hid hi
  have hv := inB_yes hi
  rcases h2 : (inB a 0 10000 && inB b 0 10000) with _ | _
  · have HR : Hid (mwK l v a b = false) := by
      unfold Hid mwK spK askK
      rw [ht, Bool.true_and, h2]; rfl
    have H2 := Lib.hid h2
    clear ht hi h2
    go_enter Try.func53, Try.ntmps53
    go_wp2_with fail
    refine (isT_v _ _ _ l _ HT.out _ HS.out hm).mono ?_
    rintro e w1 ⟨rfl, hb⟩
    have HB := Lib.hid hb
    clear hb
    go_wp2_with fail
    refine (tlevel_impl _ _ HI.out _).mono ?_
    rintro e w' ⟨rfl, rfl⟩
    go_wp2_with fail
    obtain ⟨W1, hW1⟩ : ∃ W, W = w1.alloc (.cells #[.int .i64 a, .int .i64 b] 3) := ⟨_, rfl⟩
    have HP := pair_box hW1
    have HB1 := Lib.hid (bthen HB.out HP.out.1 HB.out.size)
    have HE := Lib.hid hW1
    clear hW1
    rw [← HE.out]
    refine (two_within _ _ a b _ H2.out _ _ (HP.out.2.at_ 0 _ rfl) (HP.out.2.at_ 1 _ rfl)).mono ?_
    rintro e w' ⟨rfl, rfl⟩
    go_wp2_with fail
    go_ret2
    exact mw_no HR.out HB1.out
  have H2 := Lib.hid h2
  have h2' := h2
  rw [Bool.and_eq_true] at h2'
  obtain ⟨ha1, ha2⟩ := inB_yes h2'.1
  obtain ⟨hb1, hb2⟩ := inB_yes h2'.2
  by_cases hc : b < a
  · have HR : Hid (mwK l v a b = false) := by
      unfold Hid mwK spK
      rw [decide_eq_false (show ¬ a ≤ b by omega), Bool.and_false]; rfl
    clear ht hi h2 h2'
    go_enter Try.func53, Try.ntmps53
    go_wp2_with fail
    refine (isT_v _ _ _ l _ HT.out _ HS.out hm).mono ?_
    rintro e w1 ⟨rfl, hb⟩
    have HB := Lib.hid hb
    clear hb
    go_wp2_with fail
    refine (tlevel_impl _ _ HI.out _).mono ?_
    rintro e w' ⟨rfl, rfl⟩
    go_wp2_with fail
    obtain ⟨W1, hW1⟩ : ∃ W, W = w1.alloc (.cells #[.int .i64 a, .int .i64 b] 3) := ⟨_, rfl⟩
    have HP := pair_box hW1
    have HB1 := Lib.hid (bthen HB.out HP.out.1 HB.out.size)
    have HE := Lib.hid hW1
    clear hW1
    rw [← HE.out]
    refine (two_within _ _ a b _ H2.out _ _ (HP.out.2.at_ 0 _ rfl) (HP.out.2.at_ 1 _ rfl)).mono ?_
    rintro e w' ⟨rfl, rfl⟩
    go_wp2_with fail
    go_ret2
    exact mw_no HR.out HB1.out
  have HPK : spK l a b = true := by unfold spK askK; rw [ht, Bool.true_and, h2, decide_eq_true (show a ≤ b by omega)]; rfl
  have HP := Lib.hid (sp_parts HPK)
  have HK : Hid (mwK l v a b = true) := by unfold Hid mwK; rw [HPK, hi]; rfl
  clear ht hi h2 h2' HPK
  go_enter Try.func53, Try.ntmps53
  go_wp2_with fail
  refine (isT_v _ _ _ l _ HT.out _ HS.out hm).mono ?_
  rintro e w1 ⟨rfl, hb⟩
  have HB := Lib.hid hb
  clear hb
  go_wp2_with fail
  refine (tlevel_impl _ _ HI.out _).mono ?_
  rintro e w' ⟨rfl, rfl⟩
  go_wp2_with fail
  obtain ⟨W1, hW1⟩ : ∃ W, W = w1.alloc (.cells #[.int .i64 a, .int .i64 b] 3) := ⟨_, rfl⟩
  have HPB := pair_box hW1
  have HB0 := Lib.hid (bthen HB.out HPB.out.1 HB.out.size)
  have HE := Lib.hid hW1
  clear hW1
  rw [← HE.out]
  refine (two_within _ _ a b _ H2.out _ _ (HPB.out.2.at_ 0 _ rfl) (HPB.out.2.at_ 1 _ rfl)).mono ?_
  rintro e w' ⟨rfl, rfl⟩
  go_wp2_with fail
  go_loopw [10, 11] (MwInv l v a b w) (fun _ i _ => (b + 1 - intOf i).toNat)
  case atStart => exact ⟨0, 0, Nat.le_refl _, by omega, rfl, congrArg (Value.int .i64) (by omega), Lib.hid (by simp [cntK]), HB0⟩
  case round =>
    obtain ⟨m, k, hmk, hk, rfl, rfl, hM, hB⟩ := hrel
    have HSr := Lib.hid (spots_at HS.out hB.out)
    by_cases hlt : a + (k : Int) ≤ b
    · rcases hh : lvHas l v (a + k) with _ | _
      · have HH := Lib.hid hh
        have HM : Hid (m = cntK l v a (k + 1)) := hM.out.trans (cnt_no hh).symm
        clear hh
        go_wp2_with fail
        refine (upTo_impl _ _ _ l v _ _ HH.out _ HSr.out hm HP.out.1 (by omega) (by omega) hv).mono ?_
        rintro e w1 ⟨rfl, hb⟩
        have HB := Lib.hid (bthen hB.out hb hB.out.size)
        clear hb
        go_wp2_with fail
        go_roundw
        case rel => exact ⟨m, k + 1, by omega, by omega, rfl, by go_num, HM, HB⟩
        case measure => simp [intOf]; omega
      · have HH := Lib.hid hh
        have HM : Hid (m + 1 = cntK l v a (k + 1)) := (congrArg (· + 1) hM.out).trans (cnt_yes hh).symm
        clear hh
        go_wp2_with fail
        refine (upTo_impl _ _ _ l v _ _ HH.out _ HSr.out hm HP.out.1 (by omega) (by omega) hv).mono ?_
        rintro e w1 ⟨rfl, hb⟩
        have HB := Lib.hid (bthen hB.out hb hB.out.size)
        clear hb
        go_wp2_with fail
        go_roundw
        case rel => exact ⟨m + 1, k + 1, by omega, by omega, by go_num, by go_num, HM, HB⟩
        case measure => simp [intOf]; omega
    · have hke : a + (k : Int) = b + 1 := by omega
      go_wp2_with fail
      go_ret2
      exact mw_yes HK.out hM.out hke hB.out
end Go.Proofs.Ytdmnkmdlochogaa
