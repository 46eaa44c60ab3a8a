/-
  Contracts of impl.HighWaters, spec.HighWaters over this translation. Conditions: stated at each theorem.
-/
import Derived.Test.YtdmnkmdlochogaaPlace
namespace Go.Proofs.Ytdmnkmdlochogaa
open Go.RowKit

theorem infoReading2 : (Try.prog.info? 34).map (fun i => (i.zero, i.size, i.bytes)) = some (some (.agg #[.int .i64 0, .int .i64 0]), 2, 16) := by kernel_rfl
/-- Is the reading at i a high water? -/
def hwB (l : List (Int × Int)) (i : Nat) : Bool := decide (1 ≤ i ∧ lvAt l (i - 1) < lvAt l i ∧ lvAt l (i + 1) ≤ lvAt l i)
def hwL (l : List (Int × Int)) (k : Nat) : List (Int × Int) := ((List.range k).filter (hwB l)).map fun i => l.getD i (0, 0)
theorem hwL_succ (l : List (Int × Int)) (k : Nat) : hwL l (k + 1) = hwL l k ++ (if hwB l k then [l.getD k (0, 0)] else []) := by
  unfold hwL
  rw [List.range_succ, List.filter_append, List.map_append]
  congr 1
  by_cases h : hwB l k
  · simp [h]
  · simp [h]
theorem hwL_len (l : List (Int × Int)) (k : Nat) : (hwL l k).length ≤ k := by
  unfold hwL
  have := List.length_filter_le (hwB l) (List.range k)
  simp only [List.length_map, List.length_range] at *
  omega
theorem hwL_one (l : List (Int × Int)) : hwL l 1 = [] := by simp [hwL, hwB]
theorem hwL_zero (l : List (Int × Int)) : hwL l 0 = [] := rfl
def hwR (id ze : Int) (nm : ByteArray) (l : List (Int × Int)) : List (Int × Int) := if gaugeB id nm ze l then hwL l (l.length - 1) else []
theorem hwR_len (id ze : Int) (nm : ByteArray) (l : List (Int × Int)) : (hwR id ze nm l).length ≤ 1048576 := by
  unfold hwR
  split
  · rename_i h
    have := hwL_len l (l.length - 1)
    have := (good_of_gauge h).2.2.2.1
    omega
  · simp
theorem hw_no {id ze : Int} {nm : ByteArray} {l : List (Int × Int)} (h : gaugeB id nm ze l = false) : hwR id ze nm l = [] := by unfold hwR; rw [h]; rfl
theorem hw_yes {id ze : Int} {nm : ByteArray} {l : List (Int × Int)} (h : gaugeB id nm ze l = true) : hwR id ze nm l = hwL l (l.length - 1) := by unfold hwR; rw [h]; rfl
def HwPost (id ze : Int) (nm : ByteArray) (l : List (Int × Int)) (w : World) : Ending → World → Prop := PairsPost (hwR id ze nm l) (gaugeB id nm ze l) w
set_option maxRecDepth 20000 in
set_option maxHeartbeats 3200000 in
theorem high_spec (id ze : Int) (nm : ByteArray) (A : Option Addr) (n c : Nat) (l : List (Int × Int)) (w : World) (hs : Spots w w.heap.size A n l) (hm : n ≤ maxLen) (hn : nm.size ≤ maxLen) :
    Calls Try.prog 18 #[.agg #[.int .i64 id, .string nm, .int .i64 ze, .slice A n c]] w (HwPost id ze nm l w) := by
  obtain rfl := hs.1
  obtain ⟨i0, hi, hz0, hz1, hz2⟩ := info_parts infoReading2
  have HI := Lib.hid (And.intro hi (And.intro hz0 (And.intro hz1 hz2)))
  clear hi hz0 hz1 hz2
  have HX := Lib.hid (box1 (cs := #[.int .i64 id, .string nm, .int .i64 ze, .slice A l.length c]) (T := 26) (Below.refl _ _) (w := w))
  have HS := Lib.hid (spots_alloc hs (.cells #[.int .i64 id, .string nm, .int .i64 ze, .slice A l.length c] 26))
  have HSw := Lib.hid hs
  clear hs
  have HA : Hid (Acc w 34 2 [.int .i64 id, .string nm, .int .i64 ze, .slice A l.length c] (.slice (some ⟨w.heap.size + 1, 0, none⟩) 0 0) 0 [] ((w.alloc (.cells #[.int .i64 id, .string nm, .int .i64 ze, .slice A l.length c] 26)).alloc (.cells #[] 34))) := by
    have h := acc_start 34 2 HX.out.1 HX.out.2
    rw [World.size_alloc] at h
    exact h
  have HS0 := Lib.hid (spots_alloc HS.out (.cells #[] 34))
  rcases hg : gaugeB id nm ze l with _ | _
  · have HG := Lib.hid hg
    have HR := Lib.hid (hw_no hg)
    have HP : Hid (∀ v w', Acc w 34 2 [.int .i64 id, .string nm, .int .i64 ze, .slice A l.length c] v 0 [] w' → HwPost id ze nm l w (.returned (.tuple #[v, .bool false])) w') := Lib.hid fun v w' h => by
      unfold HwPost
      rw [HR.out, HG.out]
      exact pairs_of_acc (L := []) h rfl
    clear hg
    go_enter Try.func18, Try.ntmps18
    go_wp2_with fail
    refine (one_v _ _ _ _ _ _ l _ HG.out _ HS0.out hm hn).mono ?_
    rintro e w1 ⟨rfl, hb⟩
    have HN := Lib.hid (HA.out.next hb)
    clear hb
    go_wp2_with fail
    go_ret2
    exact HP.out _ _ HN.out
  have HG := Lib.hid hg
  have HR := Lib.hid (hw_yes hg)
  have HGG := Lib.hid (good_of_gauge hg)
  have h15 := (good_of_gauge hg).2.2.2.1
  clear hg
  go_enter Try.func18, Try.ntmps18
  go_wp2_with fail
  refine (one_v _ _ _ _ _ _ l _ HG.out _ HS0.out hm hn).mono ?_
  rintro e w1 ⟨rfl, hb⟩
  have HN := Lib.hid (HA.out.next hb)
  have HS1 := Lib.hid (spots_more HS0.out hb)
  have HA1 := Lib.hid (HS1.out.1)
  clear hb
  obtain ⟨V1, hV1⟩ : ∃ V, V = w1 := ⟨_, rfl⟩
  rw [← hV1] at HN HS1
  go_wp2_with fail
  try rw [← hV1]
  clear hV1
  go_loopw [4, 5] (fun s i wr => ∃ (k : Nat) (v : Value), 1 ≤ k ∧ (k < l.length ∨ k ≤ 1) ∧ i = .int .i64 k ∧ s = v ∧ Hid (Acc w 34 2 [.int .i64 id, .string nm, .int .i64 ze, .slice A l.length c] v (hwL l k).length (cells2 (hwL l k)) wr)) (fun _ i _ => l.length - (intOf i).toNat)
  case atStart => exact ⟨1, _, Nat.le_refl _, .inr (Nat.le_refl _), rfl, rfl, (by rw [hwL_one]; exact HN)⟩
  case round =>
    obtain ⟨k, v, hk1, hk2, rfl, rfl, hR⟩ := hrel
    have g3 := hR.out.2.2.at_ 3 _ rfl
    by_cases hlt : k + 1 < l.length
    · obtain ⟨b0, o0, x, y, rfl, hb0, hl0, c0, c1⟩ := (spots_more HSw.out hR.out.2.1).2 k (by omega)
      obtain ⟨b1, o1, x1, y1, hA1, hb1, hl1, d0, d1⟩ := (spots_more HSw.out hR.out.2.1).2 (k - 1) (by omega)
      obtain ⟨b2, o2, x2, y2, hA2, hb2, hl2, e0, e1⟩ := (spots_more HSw.out hR.out.2.1).2 (k + 1) hlt
      obtain ⟨rfl, rfl⟩ : b0 = b1 ∧ o0 = o1 := by injection hA1 with h; injection h with h h'; exact ⟨h, h'⟩
      obtain ⟨rfl, rfl⟩ : b0 = b2 ∧ o0 = o2 := by injection hA2 with h; injection h with h h'; exact ⟨h, h'⟩
      have HQ : Hid (hwB l k = decide (y1 < y ∧ y2 ≤ y) ∧ l.getD k (0, 0) = (x, y)) := Lib.hid ⟨by unfold hwB; rw [lv_of hl0, lv_of hl1, lv_of hl2]; simp [hk1], getD_at hl0⟩
      have hlen := hwL_len l k
      clear hl0 hl1 hl2 hA1 hA2 d0 e0
      obtain ⟨j, hj⟩ : ∃ j, k = j + 1 := ⟨k - 1, by omega⟩
      subst hj
      rw [Nat.add_sub_cancel] at d1
      obtain ⟨W0, hW0⟩ : ∃ W0, W0 = wr.alloc (.cells #[.int .i64 x, .int .i64 y] 34) := ⟨_, rfl⟩
      have HW : Hid (Below wr.heap.size wr W0 ∧ Has W0 wr.heap.size [.int .i64 x, .int .i64 y]) := by rw [hW0]; exact box1 (Below.refl _ _)
      go_wp2_with fail
      rw [← hW0]
      have d1' := cell_next HW.out.1 d1
      have e1' := cell_next HW.out.1 e1
      have g3' := cell_next HW.out.1 g3
      have a0 := HW.out.2.at_ 0 _ rfl
      have a1 := HW.out.2.at_ 1 _ rfl
      have HR0 := Lib.hid (hR.out.next HW.out.1)
      clear hW0 c0 c1 d1 e1 g3
      rcases hq : hwB l (j + 1) with _ | _
      · have HV : Hid (hwL l (j + 1 + 1) = hwL l (j + 1)) := by unfold Hid; rw [hwL_succ, hq]; simp
        have hq' : ¬ (y1 < y ∧ y2 ≤ y) := by have := HQ.out.1; rw [hq] at this; exact of_decide_eq_false this.symm
        clear hq
        by_cases hy : y1 < y
        · have hy2 : decide (y2 ≤ y) = false := decide_eq_false (fun h => hq' ⟨hy, h⟩)
          have hy1 : decide (y1 < y) = true := decide_eq_true hy
          clear hq'
          have lc0 := lcell (a0)
          have lc1 := lcell (a1)
          have lc2 := lcell (d1')
          have lc3 := lcell (e1')
          have lc4 := lcell (g3')
          refine region_later (W := W0) (by kernel_rfl) (by kernel_rfl) (Below.refl _ _) ?_
          repeat (go_big_quiet_step (fail))
          refine wpQuiet_nil ?_
          intro W3 hW1
          have HL : Hid (Below W0.heap.size W0 W3) := by obtain ⟨x, rfl⟩ := hW1; exact Lib.hid x.below
          clear hW1 lc0 lc1 lc2 lc3 lc4
          have hn3 := HR0.out.next HL.out
          rw [← HV.out] at hn3
          have HN3 := Lib.hid hn3
          clear hn3
          go_wp2_with fail
          go_roundw
          case rel => exact ⟨j + 1 + 1, _, by omega, .inl (by omega), by go_num, rfl, HN3⟩
          case measure => simp [intOf]; omega
        · have hy1 : decide (y1 < y) = false := decide_eq_false hy
          clear hq'
          have lc0 := lcell (a0)
          have lc1 := lcell (a1)
          have lc2 := lcell (d1')
          have lc3 := lcell (e1')
          have lc4 := lcell (g3')
          refine region_later (W := W0) (by kernel_rfl) (by kernel_rfl) (Below.refl _ _) ?_
          repeat (go_big_quiet_step (fail))
          refine wpQuiet_nil ?_
          intro W3 hW1
          have HL : Hid (Below W0.heap.size W0 W3) := by obtain ⟨x, rfl⟩ := hW1; exact Lib.hid x.below
          clear hW1 lc0 lc1 lc2 lc3 lc4
          have hn3 := HR0.out.next HL.out
          rw [← HV.out] at hn3
          have HN3 := Lib.hid hn3
          clear hn3
          go_wp2_with fail
          go_roundw
          case rel => exact ⟨j + 1 + 1, _, by omega, .inl (by omega), by go_num, rfl, HN3⟩
          case measure => simp [intOf]; omega
      · have HV : Hid (hwL l (j + 1 + 1) = hwL l (j + 1) ++ [(x, y)]) := by unfold Hid; rw [hwL_succ, hq, HQ.out.2]; simp
        have hq' : y1 < y ∧ y2 ≤ y := by have := HQ.out.1; rw [hq] at this; exact of_decide_eq_true this.symm
        have hy1 : decide (y1 < y) = true := decide_eq_true hq'.1
        have hy2 : decide (y2 ≤ y) = true := decide_eq_true hq'.2
        clear hq hq'
        have lc0 := lcell (a0)
        have lc1 := lcell (a1)
        have lc2 := lcell (d1')
        have lc3 := lcell (e1')
        have lc4 := lcell (g3')
        refine region_later (W := W0) (by kernel_rfl) (by kernel_rfl) (Below.refl _ _) ?_
        repeat (go_big_quiet_step (fail))
        refine wpQuiet_nil ?_
        intro W3 hW1
        have HL : Hid (Below W0.heap.size W0 W3) := by obtain ⟨x, rfl⟩ := hW1; exact Lib.hid x.below
        clear hW1 lc0 lc1 lc2 lc3 lc4
        have HR3 := Lib.hid (HR0.out.next HL.out)
        have a0' := cell_next HL.out a0
        have a1' := cell_next HL.out a1
        clear a0 a1 d1' e1' g3'
        go_wp2_with (at_builtin; go_loud (refine wpList_append_own _ rfl _ _ 24 rfl (w.heap.size + 1) 34 i0 (.agg #[.int .i64 0, .int .i64 0]) 2 16 Try.underlying24 HI.out.1 HI.out.2.1 HI.out.2.2.1 HI.out.2.2.2 rfl (by decide) _ _ _ rfl (HR3.out.1.alloc _) ⟨W3.heap.size, 0, none⟩ 1 1 [.int .i64 x, .int .i64 y] rfl rfl (two_new _ _ _ _) (by simp [Value.oneCell']) (by unfold maxLen; omega) (by omega) (by have := HR3.out.2.1.size; have := HR3.out.2.2.1; simp; omega) ?_; intro v' w5 hown' hgrow _; have HN := Lib.hid (HR3.out.step hown' hgrow); clear hown' hgrow))
        have hn3 := HN.out
        rw [← cells2_snoc, ← HV.out] at hn3
        have hl3 : (hwL l (j + 1)).length + 1 = (hwL l (j + 1 + 1)).length := by rw [HV.out]; simp
        rw [hl3] at hn3
        have HN3 := Lib.hid hn3
        clear hn3 hl3
        go_roundw
        case rel => exact ⟨j + 1 + 1, _, by omega, .inl (by omega), by go_num, rfl, HN3⟩
        case measure => simp [intOf]; omega
    · have hkl : hwL l k = hwL l (l.length - 1) := by
        rcases hk2 with h | h
        · have : k = l.length - 1 := by omega
          rw [this]
        · have e : k = 1 := by omega
          subst e
          rw [hwL_one]
          have h2 : l.length - 1 = 0 ∨ l.length - 1 = 1 := by omega
          rcases h2 with h2 | h2
          · rw [h2, hwL_zero]
          · rw [h2, hwL_one]
      have hP := pairs_of_acc (K := true) hR.out rfl
      rw [hkl] at hP
      have HP := Lib.hid hP
      clear hP hkl
      go_wp2_with fail
      go_ret2
      unfold HwPost
      rw [HG.out, HR.out]
      exact HP.out
set_option maxRecDepth 20000 in
set_option maxHeartbeats 3200000 in
theorem high_impl (id ze : Int) (nm : ByteArray) (A : Option Addr) (n c : Nat) (l : List (Int × Int)) (w : World) (hs : Spots w w.heap.size A n l) (hm : n ≤ maxLen) (hn : nm.size ≤ maxLen) :
    Calls Try.prog 17 #[.agg #[.int .i64 id, .string nm, .int .i64 ze, .slice A n c]] w (HwPost id ze nm l w) := by
  obtain rfl := hs.1
  obtain ⟨i0, hi, hz0, hz1, hz2⟩ := info_parts infoReading2
  have HI := Lib.hid (And.intro hi (And.intro hz0 (And.intro hz1 hz2)))
  clear hi hz0 hz1 hz2
  have HX := Lib.hid (box1 (cs := #[.int .i64 id, .string nm, .int .i64 ze, .slice A l.length c]) (T := 26) (Below.refl _ _) (w := w))
  have HS := Lib.hid (spots_alloc hs (.cells #[.int .i64 id, .string nm, .int .i64 ze, .slice A l.length c] 26))
  have HSw := Lib.hid hs
  clear hs
  rcases hg : gaugeB id nm ze l with _ | _
  · have HG := Lib.hid hg
    have HR := Lib.hid (hw_no hg)
    have HP : Hid (∀ v w', Acc w 34 2 [.int .i64 id, .string nm, .int .i64 ze, .slice A l.length c] v 0 [] w' → HwPost id ze nm l w (.returned (.tuple #[v, .bool false])) w') := Lib.hid fun v w' h => by
      unfold HwPost
      rw [HR.out, HG.out]
      exact pairs_of_acc (L := []) h rfl
    clear hg
    go_enter Try.func17, Try.ntmps17
    go_wp2_with fail
    refine (isGauge_v _ _ _ _ _ _ l _ HG.out _ HS.out hm hn).mono ?_
    rintro e w1 ⟨rfl, hb⟩
    have HN := Lib.hid (acc_start 34 2 (bthen HX.out.1 hb HX.out.1.size) (HX.out.2.next hb))
    clear hb
    go_wp2_with fail
    go_ret2
    exact HP.out _ _ HN.out
  have HG := Lib.hid hg
  have HR := Lib.hid (hw_yes hg)
  have HGG := Lib.hid (good_of_gauge hg)
  have h15 := (good_of_gauge hg).2.2.2.1
  clear hg
  go_enter Try.func17, Try.ntmps17
  go_wp2_with fail
  refine (isGauge_v _ _ _ _ _ _ l _ HG.out _ HS.out hm hn).mono ?_
  rintro e w1 ⟨rfl, hb⟩
  have HN := Lib.hid (acc_start 34 2 (bthen HX.out.1 hb HX.out.1.size) (HX.out.2.next hb))
  have HS1 := Lib.hid (spots_alloc (spots_more HS.out hb) (.cells #[] 34))
  have HA1 := Lib.hid (HS1.out.1)
  clear hb
  obtain ⟨V1, hV1⟩ : ∃ V, V = w1.alloc (.cells #[] 34) := ⟨_, rfl⟩
  rw [← hV1] at HN HS1
  go_wp2_with fail
  try rw [← hV1]
  clear hV1
  go_loopw [4, 5] (fun s i wr => ∃ (k : Nat) (v : Value), 1 ≤ k ∧ (k < l.length ∨ k ≤ 1) ∧ i = .int .i64 k ∧ s = v ∧ Hid (Acc w 34 2 [.int .i64 id, .string nm, .int .i64 ze, .slice A l.length c] v (hwL l k).length (cells2 (hwL l k)) wr)) (fun _ i _ => l.length - (intOf i).toNat)
  case atStart => exact ⟨1, _, Nat.le_refl _, .inr (Nat.le_refl _), rfl, rfl, (by rw [hwL_one]; exact HN)⟩
  case round =>
    obtain ⟨k, v, hk1, hk2, rfl, rfl, hR⟩ := hrel
    have g3 := hR.out.2.2.at_ 3 _ rfl
    by_cases hlt : k + 1 < l.length
    · obtain ⟨b0, o0, x, y, rfl, hb0, hl0, c0, c1⟩ := (spots_more HSw.out hR.out.2.1).2 k (by omega)
      obtain ⟨b1, o1, x1, y1, hA1, hb1, hl1, d0, d1⟩ := (spots_more HSw.out hR.out.2.1).2 (k - 1) (by omega)
      obtain ⟨b2, o2, x2, y2, hA2, hb2, hl2, e0, e1⟩ := (spots_more HSw.out hR.out.2.1).2 (k + 1) hlt
      obtain ⟨rfl, rfl⟩ : b0 = b1 ∧ o0 = o1 := by injection hA1 with h; injection h with h h'; exact ⟨h, h'⟩
      obtain ⟨rfl, rfl⟩ : b0 = b2 ∧ o0 = o2 := by injection hA2 with h; injection h with h h'; exact ⟨h, h'⟩
      have HQ : Hid (hwB l k = decide (y1 < y ∧ y2 ≤ y) ∧ l.getD k (0, 0) = (x, y)) := Lib.hid ⟨by unfold hwB; rw [lv_of hl0, lv_of hl1, lv_of hl2]; simp [hk1], getD_at hl0⟩
      have hlen := hwL_len l k
      clear hl0 hl1 hl2 hA1 hA2 d0 e0
      obtain ⟨j, hj⟩ : ∃ j, k = j + 1 := ⟨k - 1, by omega⟩
      subst hj
      rw [Nat.add_sub_cancel] at d1
      obtain ⟨W0, hW0⟩ : ∃ W0, W0 = wr.alloc (.cells #[.int .i64 x, .int .i64 y] 34) := ⟨_, rfl⟩
      have HW : Hid (Below wr.heap.size wr W0 ∧ Has W0 wr.heap.size [.int .i64 x, .int .i64 y]) := by rw [hW0]; exact box1 (Below.refl _ _)
      go_wp2_with fail
      rw [← hW0]
      have d1' := cell_next HW.out.1 d1
      have e1' := cell_next HW.out.1 e1
      have g3' := cell_next HW.out.1 g3
      have a0 := HW.out.2.at_ 0 _ rfl
      have a1 := HW.out.2.at_ 1 _ rfl
      have HR0 := Lib.hid (hR.out.next HW.out.1)
      clear hW0 c0 c1 d1 e1 g3
      rcases hq : hwB l (j + 1) with _ | _
      · have HV : Hid (hwL l (j + 1 + 1) = hwL l (j + 1)) := by unfold Hid; rw [hwL_succ, hq]; simp
        have hq' : ¬ (y1 < y ∧ y2 ≤ y) := by have := HQ.out.1; rw [hq] at this; exact of_decide_eq_false this.symm
        clear hq
        by_cases hy : y1 < y
        · have hy2 : decide (y2 ≤ y) = false := decide_eq_false (fun h => hq' ⟨hy, h⟩)
          have hy1 : decide (y1 < y) = true := decide_eq_true hy
          clear hq'
          have lc0 := lcell (a0)
          have lc1 := lcell (a1)
          have lc2 := lcell (d1')
          have lc3 := lcell (e1')
          have lc4 := lcell (g3')
          refine region_later (W := W0) (by kernel_rfl) (by kernel_rfl) (Below.refl _ _) ?_
          repeat (go_big_quiet_step (fail))
          refine wpQuiet_nil ?_
          intro W3 hW1
          have HL : Hid (Below W0.heap.size W0 W3) := by obtain ⟨x, rfl⟩ := hW1; exact Lib.hid x.below
          clear hW1 lc0 lc1 lc2 lc3 lc4
          have hn3 := HR0.out.next HL.out
          rw [← HV.out] at hn3
          have HN3 := Lib.hid hn3
          clear hn3
          go_wp2_with fail
          go_roundw
          case rel => exact ⟨j + 1 + 1, _, by omega, .inl (by omega), by go_num, rfl, HN3⟩
          case measure => simp [intOf]; omega
        · have hy1 : decide (y1 < y) = false := decide_eq_false hy
          clear hq'
          have lc0 := lcell (a0)
          have lc1 := lcell (a1)
          have lc2 := lcell (d1')
          have lc3 := lcell (e1')
          have lc4 := lcell (g3')
          refine region_later (W := W0) (by kernel_rfl) (by kernel_rfl) (Below.refl _ _) ?_
          repeat (go_big_quiet_step (fail))
          refine wpQuiet_nil ?_
          intro W3 hW1
          have HL : Hid (Below W0.heap.size W0 W3) := by obtain ⟨x, rfl⟩ := hW1; exact Lib.hid x.below
          clear hW1 lc0 lc1 lc2 lc3 lc4
          have hn3 := HR0.out.next HL.out
          rw [← HV.out] at hn3
          have HN3 := Lib.hid hn3
          clear hn3
          go_wp2_with fail
          go_roundw
          case rel => exact ⟨j + 1 + 1, _, by omega, .inl (by omega), by go_num, rfl, HN3⟩
          case measure => simp [intOf]; omega
      · have HV : Hid (hwL l (j + 1 + 1) = hwL l (j + 1) ++ [(x, y)]) := by unfold Hid; rw [hwL_succ, hq, HQ.out.2]; simp
        have hq' : y1 < y ∧ y2 ≤ y := by have := HQ.out.1; rw [hq] at this; exact of_decide_eq_true this.symm
        have hy1 : decide (y1 < y) = true := decide_eq_true hq'.1
        have hy2 : decide (y2 ≤ y) = true := decide_eq_true hq'.2
        clear hq hq'
        have lc0 := lcell (a0)
        have lc1 := lcell (a1)
        have lc2 := lcell (d1')
        have lc3 := lcell (e1')
        have lc4 := lcell (g3')
        refine region_later (W := W0) (by kernel_rfl) (by kernel_rfl) (Below.refl _ _) ?_
        repeat (go_big_quiet_step (fail))
        refine wpQuiet_nil ?_
        intro W3 hW1
        have HL : Hid (Below W0.heap.size W0 W3) := by obtain ⟨x, rfl⟩ := hW1; exact Lib.hid x.below
        clear hW1 lc0 lc1 lc2 lc3 lc4
        have HR3 := Lib.hid (HR0.out.next HL.out)
        have a0' := cell_next HL.out a0
        have a1' := cell_next HL.out a1
        clear a0 a1 d1' e1' g3'
        go_wp2_with (at_builtin; go_loud (refine wpList_append_own _ rfl _ _ 24 rfl (w.heap.size + 1) 34 i0 (.agg #[.int .i64 0, .int .i64 0]) 2 16 Try.underlying24 HI.out.1 HI.out.2.1 HI.out.2.2.1 HI.out.2.2.2 rfl (by decide) _ _ _ rfl (HR3.out.1.alloc _) ⟨W3.heap.size, 0, none⟩ 1 1 [.int .i64 x, .int .i64 y] rfl rfl (two_new _ _ _ _) (by simp [Value.oneCell']) (by unfold maxLen; omega) (by omega) (by have := HR3.out.2.1.size; have := HR3.out.2.2.1; simp; omega) ?_; intro v' w5 hown' hgrow _; have HN := Lib.hid (HR3.out.step hown' hgrow); clear hown' hgrow))
        have hn3 := HN.out
        rw [← cells2_snoc, ← HV.out] at hn3
        have hl3 : (hwL l (j + 1)).length + 1 = (hwL l (j + 1 + 1)).length := by rw [HV.out]; simp
        rw [hl3] at hn3
        have HN3 := Lib.hid hn3
        clear hn3 hl3
        go_roundw
        case rel => exact ⟨j + 1 + 1, _, by omega, .inl (by omega), by go_num, rfl, HN3⟩
        case measure => simp [intOf]; omega
    · have hkl : hwL l k = hwL l (l.length - 1) := by
        rcases hk2 with h | h
        · have : k = l.length - 1 := by omega
          rw [this]
        · have e : k = 1 := by omega
          subst e
          rw [hwL_one]
          have h2 : l.length - 1 = 0 ∨ l.length - 1 = 1 := by omega
          rcases h2 with h2 | h2
          · rw [h2, hwL_zero]
          · rw [h2, hwL_one]
      have hP := pairs_of_acc (K := true) hR.out rfl
      rw [hkl] at hP
      have HP := Lib.hid hP
      clear hP hkl
      go_wp2_with fail
      go_ret2
      unfold HwPost
      rw [HG.out, HR.out]
      exact HP.out
end Go.Proofs.Ytdmnkmdlochogaa
