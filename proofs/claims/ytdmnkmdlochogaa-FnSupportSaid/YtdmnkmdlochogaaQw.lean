/-
  The mean depth and all soundings lowered: contracts of impl.MeanDepth, spec.MeanDepth, impl.LowerAll, spec.LowerAll over this translation. Conditions: stated at each theorem.
-/
import Derived.Test.YtdmnkmdlochogaaQf
import Derived.Test.YtdmnkmdlochogaaQr
import Derived.Deep.DeepCutAuto
namespace Go.Proofs.Ytdmnkmdlochogaa
open Go.RowKit
set_option linter.unusedVariables false

/-! ### MeanDepth -/
def mnK (L : List SD) : Bool := sdsB L && decide (0 < L.length)
def mnN (L : List SD) : Int := if mnK L then (smK L L.length).tdiv (gd (smK L L.length) L.length : Nat) else 0
def mnD (L : List SD) : Int := if mnK L then (L.length : Int) / (gd (smK L L.length) L.length : Nat) else 0
theorem mn_no {L : List SD} (h : mnK L = false) : mnN L = 0 ∧ mnD L = 0 ∧ mnK L = false := ⟨by unfold mnN; rw [h]; rfl, by unfold mnD; rw [h]; rfl, h⟩
theorem mn_1 {L : List SD} (h : sdsB L = false) : mnN L = 0 ∧ mnD L = 0 ∧ mnK L = false := mn_no (by unfold mnK; rw [h]; rfl)
theorem mn_2 {L : List SD} (h : L.length = 0) : mnN L = 0 ∧ mnD L = 0 ∧ mnK L = false := mn_no (by unfold mnK; rw [decide_eq_false (show ¬ 0 < L.length by omega), Bool.and_false])
theorem mn_yes {L : List SD} (h : sdsB L = true) (h0 : 0 < L.length) : mnN L = (smK L L.length).tdiv (gd (smK L L.length) L.length : Nat) ∧ mnD L = (L.length : Int) / (gd (smK L L.length) L.length : Nat) ∧ mnK L = true := by
  have : mnK L = true := by unfold mnK; rw [h, decide_eq_true h0]; rfl
  exact ⟨by unfold mnN; rw [this, if_pos rfl], by unfold mnD; rw [this, if_pos rfl], this⟩
set_option maxRecDepth 20000 in
set_option maxHeartbeats 3200000 in
theorem mean_impl (A : Option Addr) (n c : Nat) (L : List SD) (w : World) (hs : Sds w w.heap.size A n L) (hm : n ≤ maxLen) :
    Calls Try.prog 68 #[.slice A n c] w (AgPost (mnN L) (mnD L) (mnK L) w) := by
  obtain rfl := hs.1
  have HS := Lib.hid hs
  clear hs
  rcases ha : sdsB L with _ | _
  · have HA := Lib.hid ha
    clear ha
    go_enter Try.func68, Try.ntmps68
    go_wp2_with fail
    refine (sds_impl_v _ _ _ L _ HA.out _ HS.out hm).mono ?_
    rintro e w1 ⟨rfl, hb⟩
    have HB1 := Lib.hid hb
    clear hb
    go_wp2_with fail
    go_ret3
    exact ag_no (mn_1 HA.out) HB1.out
  have HA := Lib.hid ha
  have HG := Lib.hid (good8_of ha)
  have h12 := (good8_of ha).max
  clear ha
  by_cases h0 : L.length = 0
  · have HZ := Lib.hid h0
    have hz : (((L.length : Nat) : Int) == 0) = true := beq_iff_eq.2 (by omega)
    clear h0
    go_enter Try.func68, Try.ntmps68
    go_wp2_with fail
    refine (sds_impl_v _ _ _ L _ HA.out _ HS.out hm).mono ?_
    rintro e w1 ⟨rfl, hb⟩
    have HB1 := Lib.hid hb
    clear hb
    go_wp2_with fail
    go_ret3
    exact ag_no (mn_2 HZ.out) HB1.out
  have hz : (((L.length : Nat) : Int) == 0) = false := beq_eq_false_iff_ne.2 (by omega)
  have HP := Lib.hid (mn_yes HA.out (by omega))
  go_enter Try.func68, Try.ntmps68
  go_wp2_with fail
  refine (sds_impl_v _ _ _ L _ HA.out _ HS.out hm).mono ?_
  rintro e W1 ⟨rfl, hb⟩
  have HB1 := Lib.hid hb
  clear hb
  go_wp2_with fail
  go_loopw [5, 20] (fun q i wr => ∃ (k : Nat) (s : Int), k ≤ L.length ∧ i = .int .i64 k ∧ q = .int .i64 s ∧ Hid (s = smK L k) ∧ (-1000 * (k : Int) ≤ s ∧ s ≤ 20000 * (k : Int)) ∧ Hid (Below w.heap.size w wr)) (fun _ i _ => L.length - (intOf i).toNat)
  case atStart => exact ⟨0, 0, Nat.zero_le _, rfl, rfl, Lib.hid rfl, by omega, HB1⟩
  case round =>
    obtain ⟨k, s, hk, rfl, rfl, hM, ⟨hs1, hs2⟩, hB⟩ := hrel
    by_cases hlt : k < L.length
    · obtain ⟨b, o, v, rfl, hbl, hL, c0, c1, c2, c3, c4⟩ := (sds_at HS.out hB.out).2 k hlt
      obtain ⟨_, _, _, ⟨d1, d2⟩, _⟩ := sdB_parts (HG.out.one k hlt)
      rw [sdAt_at hL] at d1 d2
      have HN : Hid (s + v.dep = smK L (k + 1)) := by unfold Hid; rw [smK, sdAt_at hL, ← hM.out]
      clear hL
      have HNB := Lib.hid (hB.out.alloc hB.out.size (.cells #[.int .i64 v.id, .int .i64 v.x, .int .i64 v.y, .int .i64 v.dep, .int .i64 v.dbt] 75))
      go_wp2_with fail
      clear c0 c1 c2 c3 c4
      go_roundw
      case rel => exact ⟨k + 1, s + v.dep, by omega, by go_num, by first | rfl | go_num, HN, by omega, HNB⟩
      case measure => simp [intOf]; omega
    · obtain rfl : k = L.length := by omega
      go_wp2_with fail
      refine (lowest_impl s L.length _ (by omega) (by omega) (by omega) (by omega)).mono ?_
      rintro e w2 ⟨rfl, hb⟩
      have HB2 := Lib.hid (bthen hB.out hb hB.out.size)
      clear hb
      rw [hM.out] at *
      go_wp2_with fail
      go_ret3
      exact ag_same HP.out HB2.out
set_option maxRecDepth 20000 in
set_option maxHeartbeats 3200000 in
theorem mean_spec (A : Option Addr) (n c : Nat) (L : List SD) (w : World) (hs : Sds w w.heap.size A n L) (hm : n ≤ maxLen) :
    Calls Try.prog 69 #[.slice A n c] w (AgPost (mnN L) (mnD L) (mnK L) w) := by
  obtain rfl := hs.1
  have HS := Lib.hid hs
  clear hs
  rcases ha : sdsB L with _ | _
  · have HA := Lib.hid ha
    clear ha
    go_enter Try.func69, Try.ntmps69
    go_wp2_with fail
    refine (good_spec_v _ _ _ L _ HA.out _ HS.out hm).mono ?_
    rintro e w1 ⟨rfl, hb⟩
    have HB1 := Lib.hid hb
    clear hb
    go_wp2_with fail
    go_ret3
    exact ag_no (mn_1 HA.out) HB1.out
  have HA := Lib.hid ha
  have HG := Lib.hid (good8_of ha)
  have h12 := (good8_of ha).max
  clear ha
  by_cases h0 : L.length = 0
  · have HZ := Lib.hid h0
    have hz : (((L.length : Nat) : Int) == 0) = true := beq_iff_eq.2 (by omega)
    clear h0
    go_enter Try.func69, Try.ntmps69
    go_wp2_with fail
    refine (good_spec_v _ _ _ L _ HA.out _ HS.out hm).mono ?_
    rintro e w1 ⟨rfl, hb⟩
    have HB1 := Lib.hid hb
    clear hb
    go_wp2_with fail
    go_ret3
    exact ag_no (mn_2 HZ.out) HB1.out
  have hz : (((L.length : Nat) : Int) == 0) = false := beq_eq_false_iff_ne.2 (by omega)
  have HP := Lib.hid (mn_yes HA.out (by omega))
  go_enter Try.func69, Try.ntmps69
  go_wp2_with fail
  refine (good_spec_v _ _ _ L _ HA.out _ HS.out hm).mono ?_
  rintro e W1 ⟨rfl, hb⟩
  have HB1 := Lib.hid hb
  clear hb
  go_wp2_with fail
  go_loopw [5, 6] (fun q i wr => ∃ (k : Nat) (s : Int), k ≤ L.length ∧ i = .int .i64 k ∧ q = .int .i64 s ∧ Hid (s = smK L k) ∧ (-1000 * (k : Int) ≤ s ∧ s ≤ 20000 * (k : Int)) ∧ Hid (Below w.heap.size w wr)) (fun _ i _ => L.length - (intOf i).toNat)
  case atStart => exact ⟨0, 0, Nat.zero_le _, rfl, rfl, Lib.hid rfl, by omega, HB1⟩
  case round =>
    obtain ⟨k, s, hk, rfl, rfl, hM, ⟨hs1, hs2⟩, hB⟩ := hrel
    by_cases hlt : k < L.length
    · obtain ⟨b, o, v, rfl, hbl, hL, c0, c1, c2, c3, c4⟩ := (sds_at HS.out hB.out).2 k hlt
      obtain ⟨_, _, _, ⟨d1, d2⟩, _⟩ := sdB_parts (HG.out.one k hlt)
      rw [sdAt_at hL] at d1 d2
      have HN : Hid (s + v.dep = smK L (k + 1)) := by unfold Hid; rw [smK, sdAt_at hL, ← hM.out]
      clear hL
      have HNB := hB
      go_wp2_with fail
      clear c0 c1 c2 c3 c4
      go_roundw
      case rel => exact ⟨k + 1, s + v.dep, by omega, by go_num, by first | rfl | go_num, HN, by omega, HNB⟩
      case measure => simp [intOf]; omega
    · obtain rfl : k = L.length := by omega
      go_wp2_with fail
      refine (reduce_spec s L.length _ (by omega) (by omega) (by omega) (by omega)).mono ?_
      rintro e w2 ⟨rfl, hb⟩
      have HB2 := Lib.hid (bthen hB.out hb hB.out.size)
      clear hb
      rw [hM.out] at *
      go_wp2_with fail
      go_ret3
      exact ag_same HP.out HB2.out
/-! ### LowerAll -/
def lwG (L : List SD) (b d : Int) : Bool := sdsB L && inB b (-30000) 30000 && inB d 0 500
def lwK (L : List SD) (b d : Int) : Bool := lwG L b d && sdsB (lwL L b d)
def lwR (L : List SD) (b d : Int) : List SD := if lwK L b d then lwL L b d else []
def LwPost (L : List SD) (b d : Int) (w : World) (e : Ending) (w' : World) : Prop :=
  ∃ A c, e = .returned (.tuple #[.slice A (lwR L b d).length c, .bool (lwK L b d)]) ∧ OwnS w' w.heap.size w'.heap.size A (lwR L b d).length (lwR L b d) ∧ Below w.heap.size w w'
theorem lw_no {L : List SD} {b d : Int} {A : Option Addr} {c : Nat} {w w' : World} (hk : lwK L b d = false) (hb : Below w.heap.size w w') : LwPost L b d w (.returned (.tuple #[.slice A 0 c, .bool false])) w' := by
  have hR : lwR L b d = [] := by unfold lwR; rw [hk]; rfl
  exact ⟨A, c, by rw [hk, hR]; rfl, by rw [hR]; exact ⟨rfl, .inl rfl⟩, hb⟩
theorem lwL_len (L : List SD) (b d : Int) : (lwL L b d).length = L.length := by simp [lwL]
theorem lwL_take {L : List SD} {k : Nat} {v : SD} (b d : Int) (h : L[k]? = some v) : lwL (L.take (k + 1)) b d = lwL (L.take k) b d ++ [lwS b d v] := by
  obtain ⟨hk, rfl⟩ := List.getElem?_eq_some_iff.1 h
  unfold lwL
  rw [List.take_succ_eq_append_getElem hk, List.map_append]
  rfl
theorem lw_yes {L : List SD} {b d : Int} {A : Option Addr} {c : Nat} {w w' : World} (hk : lwK L b d = true) (ho : OwnS w' w.heap.size w'.heap.size A L.length (lwL L b d)) (hb : Below w.heap.size w w') : LwPost L b d w (.returned (.tuple #[.slice A L.length c, .bool true])) w' := by
  have hR : lwR L b d = lwL L b d := by unfold lwR; rw [hk, if_pos rfl]
  have hl : (lwR L b d).length = L.length := by rw [hR, lwL_len]
  exact ⟨A, c, by rw [hk, hl], by rw [hl, hR]; exact ho, hb⟩
theorem lwK_1 {L : List SD} {b d : Int} (h : sdsB L = false) : lwK L b d = false := by unfold lwK lwG; rw [h]; rfl
theorem lwK_2 {L : List SD} {b d : Int} (h : inB b (-30000) 30000 = false) : lwK L b d = false := by unfold lwK lwG; rw [h]; simp
theorem lwK_3 {L : List SD} {b d : Int} (h : inB d 0 500 = false) : lwK L b d = false := by unfold lwK lwG; rw [h]; simp
theorem lwK_4 {L : List SD} {b d : Int} (h1 : sdsB L = true) (h2 : inB b (-30000) 30000 = true) (h3 : inB d 0 500 = true) : lwK L b d = sdsB (lwL L b d) := by unfold lwK lwG; rw [h1, h2, h3]; rfl
theorem ownS_up {w w1 w2 : World} {A : Option Addr} {n : Nat} {L : List SD} (h : OwnS w1 w.heap.size w1.heap.size A n L) (hb : Below w1.heap.size w1 w2) : OwnS w2 w.heap.size w2.heap.size A n L := (h.on hb (Nat.le_refl _)).wide (Nat.le_refl _) hb.size
set_option maxRecDepth 20000 in
set_option maxHeartbeats 3200000 in
theorem lower_impl (A : Option Addr) (n c : Nat) (L : List SD) (x d : Int) (w : World) (hs : Sds w w.heap.size A n L) (hm : n ≤ maxLen) :
    Calls Try.prog 71 #[.slice A n c, .int .i64 x, .int .i64 d] w (LwPost L x d w) := by
  obtain rfl := hs.1
  obtain ⟨i0, hi, hz0, hz1, hz2⟩ := info_parts infoSound
  have HI := Lib.hid (And.intro hi (And.intro hz0 (And.intro hz1 hz2)))
  clear hi hz0 hz1 hz2
  have HS := Lib.hid hs
  clear hs
  rcases h1 : sdsB L with _ | _
  · have HA := Lib.hid h1
    clear h1
    go_enter Try.func71, Try.ntmps71
    go_wp2_with fail
    refine (sds_impl_v _ _ _ L _ HA.out _ HS.out hm).mono ?_
    rintro e w1 ⟨rfl, hb⟩
    have HB1 := Lib.hid hb
    clear hb
    go_wp2_with fail
    go_ret2
    exact lw_no (lwK_1 HA.out) (HB1.out.alloc HB1.out.size _)
  have HA := Lib.hid h1
  rcases h2 : inB x (-30000) 30000 with _ | _
  · have H2 := Lib.hid h2
    clear h1 h2
    go_enter Try.func71, Try.ntmps71
    go_wp2_with fail
    refine (sds_impl_v _ _ _ L _ HA.out _ HS.out hm).mono ?_
    rintro e w1 ⟨rfl, hb⟩
    have HB1 := Lib.hid hb
    clear hb
    go_wp2_with fail
    refine (within_v _ _ _ _ H2.out _).mono ?_
    rintro e w' ⟨rfl, rfl⟩
    go_wp2_with fail
    go_ret2
    exact lw_no (lwK_2 H2.out) (HB1.out.alloc HB1.out.size _)
  have H2 := Lib.hid h2
  rcases h3 : inB d 0 500 with _ | _
  · have H3 := Lib.hid h3
    clear h1 h2 h3
    go_enter Try.func71, Try.ntmps71
    go_wp2_with fail
    refine (sds_impl_v _ _ _ L _ HA.out _ HS.out hm).mono ?_
    rintro e w1 ⟨rfl, hb⟩
    have HB1 := Lib.hid hb
    clear hb
    go_wp2_with fail
    refine (within_v _ _ _ _ H2.out _).mono ?_
    rintro e w' ⟨rfl, rfl⟩
    go_wp2_with fail
    refine (dbtS_impl _ _ H3.out _).mono ?_
    rintro e w' ⟨rfl, rfl⟩
    go_wp2_with fail
    go_ret2
    exact lw_no (lwK_3 H3.out) (HB1.out.alloc HB1.out.size _)
  have H3 := Lib.hid h3
  have HG := Lib.hid (good8_of h1)
  have h12 := (good8_of h1).max
  obtain ⟨x1, x2⟩ := inB_yes h2
  obtain ⟨d1, d2⟩ := inB_yes h3
  have HK := Lib.hid (lwK_4 h1 h2 h3)
  clear h1 h2 h3
  go_enter Try.func71, Try.ntmps71
  go_wp2_with fail
  refine (sds_impl_v _ _ _ L _ HA.out _ HS.out hm).mono ?_
  rintro e w1 ⟨rfl, hb⟩
  have HN0 : Hid (Col w 75 5 (.slice (some ⟨w1.heap.size, 0, none⟩) 0 0) 0 (cellsS (lwL (L.take 0) x d)) (w1.alloc (.cells #[] 75))) := Lib.hid (col_start 75 5 hb)
  clear hb
  go_wp2_with fail
  refine (within_v _ _ _ _ H2.out _).mono ?_
  rintro e w' ⟨rfl, rfl⟩
  go_wp2_with fail
  refine (dbtS_impl _ _ H3.out _).mono ?_
  rintro e w' ⟨rfl, rfl⟩
  go_wp2_with fail
  go_loopw [8, 28] (fun s i wr => ∃ (k : Nat) (v : Value), k ≤ L.length ∧ i = .int .i64 k ∧ s = v ∧ Hid (Col w 75 5 v k (cellsS (lwL (L.take k) x d)) wr)) (fun _ i _ => L.length - (intOf i).toNat)
  case atStart => exact ⟨0, _, Nat.zero_le _, rfl, rfl, HN0⟩
  case round =>
    obtain ⟨k, v, hk, rfl, rfl, hR⟩ := hrel
    have HSr := Lib.hid (sds_at HS.out hR.out.2)
    by_cases hlt : k < L.length
    · obtain ⟨b, o, u, rfl, hbl, hL, c0, c1, c2, c3, c4⟩ := HSr.out.2 k hlt
      have HV := Lib.hid (lwL_take x d hL)
      have hu := sdB_parts (HG.out.one k hlt)
      rw [sdAt_at hL] at hu
      obtain ⟨_, _, _, ⟨u1, u2⟩, ⟨u3, u4⟩⟩ := hu
      clear hL hbl
      obtain ⟨W3, hW3⟩ : ∃ W, W = wr.alloc (.cells #[.int .i64 u.id, .int .i64 u.x, .int .i64 u.y, .int .i64 (u.dep + x), .int .i64 (u.dbt + d)] 75) := ⟨_, rfl⟩
      have HW : Hid (Below wr.heap.size wr W3 ∧ Has W3 wr.heap.size [.int .i64 u.id, .int .i64 u.x, .int .i64 u.y, .int .i64 (u.dep + x), .int .i64 (u.dbt + d)]) := by rw [hW3]; exact box1 (Below.refl _ _)
      have HR3 := Lib.hid (hR.out.next HW.out.1)
      have a0 := HW.out.2.at_ 0 _ rfl
      have a1 := HW.out.2.at_ 1 _ rfl
      have a2 := HW.out.2.at_ 2 _ rfl
      have a3 := HW.out.2.at_ 3 _ rfl
      have a4 := HW.out.2.at_ 4 _ rfl
      have HE3 := Lib.hid hW3
      clear hW3
      go_upto_region 9 with fail
      rw [← HE3.out]
      clear c0 c1 c2 c3 c4
      go_wp2_with (at_builtin; go_loud (refine wpList_append_own _ rfl _ _ 67 rfl w.heap.size 75 i0 (.agg #[.int .i64 0, .int .i64 0, .int .i64 0, .int .i64 0, .int .i64 0]) 5 40 Try.underlying67 HI.out.1 HI.out.2.1 HI.out.2.2.1 HI.out.2.2.2 rfl (by decide) _ _ _ rfl (HR3.out.1.alloc _) ⟨W3.heap.size, 0, none⟩ 1 1 [.int .i64 u.id, .int .i64 u.x, .int .i64 u.y, .int .i64 (u.dep + x), .int .i64 (u.dbt + d)] rfl rfl (five_new W3 ⟨u.id, u.x, u.y, u.dep + x, u.dbt + d⟩ _) (by simp [Value.oneCell']) (by unfold maxLen; omega) (by omega) (by have := HR3.out.2.size; simp; omega) ?_; intro v' w5 hown' hgrow _; have HN := Lib.hid (HR3.out.step hown' hgrow); clear hown' hgrow))
      have hn3 : Col w 75 5 v' (k + 1) (cellsS (lwL (L.take k) x d) ++ [.int .i64 (lwS x d u).id, .int .i64 (lwS x d u).x, .int .i64 (lwS x d u).y, .int .i64 (lwS x d u).dep, .int .i64 (lwS x d u).dbt]) w5 := HN.out
      rw [← cellsS_snoc, ← HV.out] at hn3
      have HN3 := Lib.hid hn3
      clear hn3 HN
      go_roundw
      case rel => exact ⟨k + 1, _, by omega, by go_num, rfl, HN3⟩
      case measure => simp [intOf]; omega
    · obtain rfl : k = L.length := by omega
      have hR' := hR.out
      rw [List.take_of_length_le (Nat.le_refl _)] at hR'
      obtain ⟨A2, c2, rfl, ho, hb⟩ := ownS_of_col hR' (lwL_len L x d)
      have HO := Lib.hid ho
      have HB := Lib.hid hb
      have HY := Lib.hid ho.sds
      clear hR' ho hb
      rcases hk2 : sdsB (lwL L x d) with _ | _
      · have HK2 := Lib.hid hk2
        have HKF := Lib.hid (HK.out.trans hk2)
        clear hk2
        go_wp2_with fail
        refine (sds_impl_v _ _ _ (lwL L x d) _ HK2.out _ HY.out hm).mono ?_
        rintro e w4 ⟨rfl, hb⟩
        have HB2 := Lib.hid (bthen HB.out hb HB.out.size)
        clear hb
        go_wp2_with fail
        go_ret2
        exact lw_no HKF.out (HB2.out.alloc HB2.out.size _)
      · have HK2 := Lib.hid hk2
        have HKT := Lib.hid (HK.out.trans hk2)
        clear hk2
        go_wp2_with fail
        refine (sds_impl_v _ _ _ (lwL L x d) _ HK2.out _ HY.out hm).mono ?_
        rintro e w4 ⟨rfl, hb⟩
        have HB2 := Lib.hid (bthen HB.out hb HB.out.size)
        have HO2 := Lib.hid (ownS_up HO.out hb)
        clear hb
        go_wp2_with fail
        go_ret2
        exact lw_yes HKT.out HO2.out HB2.out
set_option maxRecDepth 20000 in
set_option maxHeartbeats 3200000 in
theorem lower_spec (A : Option Addr) (n c : Nat) (L : List SD) (x d : Int) (w : World) (hs : Sds w w.heap.size A n L) (hm : n ≤ maxLen) :
    Calls Try.prog 72 #[.slice A n c, .int .i64 x, .int .i64 d] w (LwPost L x d w) := by
  obtain rfl := hs.1
  obtain ⟨i0, hi, hz0, hz1, hz2⟩ := info_parts infoSound
  have HI := Lib.hid (And.intro hi (And.intro hz0 (And.intro hz1 hz2)))
  clear hi hz0 hz1 hz2
  have HS := Lib.hid hs
  have HS0 := Lib.hid (sds_at hs ((Below.refl _ _).alloc (Nat.le_refl _) (.cells #[] 75)))
  have HC : Hid (Col w 75 5 (.slice (some ⟨w.heap.size, 0, none⟩) 0 0) 0 [] (w.alloc (.cells #[] 75))) := Lib.hid (col_start 75 5 (Below.refl _ _))
  clear hs
  rcases h1 : sdsB L with _ | _
  · have HA := Lib.hid h1
    clear h1
    go_enter Try.func72, Try.ntmps72
    go_wp2_with fail
    refine (good_spec_v _ _ _ L _ HA.out _ HS0.out hm).mono ?_
    rintro e w1 ⟨rfl, hb⟩
    have HB1 := Lib.hid (HC.out.next hb).2
    clear hb
    go_wp2_with fail
    go_ret2
    exact lw_no (lwK_1 HA.out) HB1.out
  have HA := Lib.hid h1
  rcases h2 : inB x (-30000) 30000 with _ | _
  · have H2 := Lib.hid h2
    clear h1 h2
    go_enter Try.func72, Try.ntmps72
    go_wp2_with fail
    refine (good_spec_v _ _ _ L _ HA.out _ HS0.out hm).mono ?_
    rintro e w1 ⟨rfl, hb⟩
    have HB1 := Lib.hid (HC.out.next hb).2
    clear hb
    go_wp2_with fail
    refine (l1In_v _ _ _ _ H2.out _).mono ?_
    rintro e w' ⟨rfl, rfl⟩
    go_wp2_with fail
    go_ret2
    exact lw_no (lwK_2 H2.out) HB1.out
  have H2 := Lib.hid h2
  rcases h3 : inB d 0 500 with _ | _
  · have H3 := Lib.hid h3
    clear h1 h2 h3
    go_enter Try.func72, Try.ntmps72
    go_wp2_with fail
    refine (good_spec_v _ _ _ L _ HA.out _ HS0.out hm).mono ?_
    rintro e w1 ⟨rfl, hb⟩
    have HB1 := Lib.hid (HC.out.next hb).2
    clear hb
    go_wp2_with fail
    refine (l1In_v _ _ _ _ H2.out _).mono ?_
    rintro e w' ⟨rfl, rfl⟩
    go_wp2_with fail
    refine (l1In_v _ _ _ _ H3.out _).mono ?_
    rintro e w' ⟨rfl, rfl⟩
    go_wp2_with fail
    go_ret2
    exact lw_no (lwK_3 H3.out) HB1.out
  have H3 := Lib.hid h3
  have HG := Lib.hid (good8_of h1)
  have h12 := (good8_of h1).max
  obtain ⟨x1, x2⟩ := inB_yes h2
  obtain ⟨d1, d2⟩ := inB_yes h3
  have HK := Lib.hid (lwK_4 h1 h2 h3)
  clear h1 h2 h3
  go_enter Try.func72, Try.ntmps72
  go_wp2_with fail
  refine (good_spec_v _ _ _ L _ HA.out _ HS0.out hm).mono ?_
  rintro e w1 ⟨rfl, hb⟩
  have HN0 : Hid (Col w 75 5 (.slice (some ⟨w.heap.size, 0, none⟩) 0 0) 0 (cellsS (lwL (L.take 0) x d)) w1) := Lib.hid (HC.out.next hb)
  clear hb
  go_wp2_with fail
  refine (l1In_v _ _ _ _ H2.out _).mono ?_
  rintro e w' ⟨rfl, rfl⟩
  go_wp2_with fail
  refine (l1In_v _ _ _ _ H3.out _).mono ?_
  rintro e w' ⟨rfl, rfl⟩
  go_wp2_with fail
  go_loopw [8, 9] (fun s i wr => ∃ (k : Nat) (v : Value), k ≤ L.length ∧ i = .int .i64 k ∧ s = v ∧ Hid (Col w 75 5 v k (cellsS (lwL (L.take k) x d)) wr)) (fun _ i _ => L.length - (intOf i).toNat)
  case atStart => exact ⟨0, _, Nat.zero_le _, rfl, rfl, HN0⟩
  case round =>
    obtain ⟨k, v, hk, rfl, rfl, hR⟩ := hrel
    have HSr := Lib.hid (sds_at HS.out hR.out.2)
    by_cases hlt : k < L.length
    · obtain ⟨b, o, u, rfl, hbl, hL, c0, c1, c2, c3, c4⟩ := HSr.out.2 k hlt
      have HV := Lib.hid (lwL_take x d hL)
      have hu := sdB_parts (HG.out.one k hlt)
      rw [sdAt_at hL] at hu
      obtain ⟨_, _, _, ⟨u1, u2⟩, ⟨u3, u4⟩⟩ := hu
      clear hL hbl
      obtain ⟨W3, hW3⟩ : ∃ W, W = wr.alloc (.cells #[.int .i64 u.id, .int .i64 u.x, .int .i64 u.y, .int .i64 u.dep, .int .i64 u.dbt] 75) := ⟨_, rfl⟩
      have HW : Hid (Below wr.heap.size wr W3 ∧ Has W3 wr.heap.size [.int .i64 u.id, .int .i64 u.x, .int .i64 u.y, .int .i64 u.dep, .int .i64 u.dbt]) := by rw [hW3]; exact box1 (Below.refl _ _)
      have HR3 := Lib.hid (hR.out.next HW.out.1)
      have a0 := HW.out.2.at_ 0 _ rfl
      have a1 := HW.out.2.at_ 1 _ rfl
      have a2 := HW.out.2.at_ 2 _ rfl
      have a3 := HW.out.2.at_ 3 _ rfl
      have a4 := HW.out.2.at_ 4 _ rfl
      have HE3 := Lib.hid hW3
      clear hW3
      go_upto_region 8 with fail
      rw [← HE3.out]
      clear c0 c1 c2 c3 c4
      go_wp2_with (at_builtin; go_loud (refine wpList_append_own _ rfl _ _ 67 rfl w.heap.size 75 i0 (.agg #[.int .i64 0, .int .i64 0, .int .i64 0, .int .i64 0, .int .i64 0]) 5 40 Try.underlying67 HI.out.1 HI.out.2.1 HI.out.2.2.1 HI.out.2.2.2 rfl (by decide) _ _ _ rfl (HR3.out.1.alloc _) ⟨W3.heap.size, 0, none⟩ 1 1 [.int .i64 u.id, .int .i64 u.x, .int .i64 u.y, .int .i64 (u.dep + x), .int .i64 (u.dbt + d)] rfl rfl (five_new W3 ⟨u.id, u.x, u.y, u.dep + x, u.dbt + d⟩ _) (by simp [Value.oneCell']) (by unfold maxLen; omega) (by omega) (by have := HR3.out.2.size; simp; omega) ?_; intro v' w5 hown' hgrow _; have HN := Lib.hid (HR3.out.step hown' hgrow); clear hown' hgrow))
      have hn3 : Col w 75 5 v' (k + 1) (cellsS (lwL (L.take k) x d) ++ [.int .i64 (lwS x d u).id, .int .i64 (lwS x d u).x, .int .i64 (lwS x d u).y, .int .i64 (lwS x d u).dep, .int .i64 (lwS x d u).dbt]) w5 := HN.out
      rw [← cellsS_snoc, ← HV.out] at hn3
      have HN3 := Lib.hid hn3
      clear hn3 HN
      go_roundw
      case rel => exact ⟨k + 1, _, by omega, by go_num, rfl, HN3⟩
      case measure => simp [intOf]; omega
    · obtain rfl : k = L.length := by omega
      have hR' := hR.out
      rw [List.take_of_length_le (Nat.le_refl _)] at hR'
      obtain ⟨A2, c2, rfl, ho, hb⟩ := ownS_of_col hR' (lwL_len L x d)
      have HO := Lib.hid ho
      have HB := Lib.hid hb
      have HY := Lib.hid ho.sds
      clear hR' ho hb
      rcases hk2 : sdsB (lwL L x d) with _ | _
      · have HK2 := Lib.hid hk2
        have HKF := Lib.hid (HK.out.trans hk2)
        clear hk2
        go_wp2_with fail
        refine (good_spec_v _ _ _ (lwL L x d) _ HK2.out _ HY.out hm).mono ?_
        rintro e w4 ⟨rfl, hb⟩
        have HB2 := Lib.hid (bthen HB.out hb HB.out.size)
        clear hb
        go_wp2_with fail
        go_ret2
        exact lw_no HKF.out (HB2.out.alloc HB2.out.size _)
      · have HK2 := Lib.hid hk2
        have HKT := Lib.hid (HK.out.trans hk2)
        clear hk2
        go_wp2_with fail
        refine (good_spec_v _ _ _ (lwL L x d) _ HK2.out _ HY.out hm).mono ?_
        rintro e w4 ⟨rfl, hb⟩
        have HB2 := Lib.hid (bthen HB.out hb HB.out.size)
        have HO2 := Lib.hid (ownS_up HO.out hb)
        clear hb
        go_wp2_with fail
        go_ret2
        exact lw_yes HKT.out HO2.out HB2.out
end Go.Proofs.Ytdmnkmdlochogaa
