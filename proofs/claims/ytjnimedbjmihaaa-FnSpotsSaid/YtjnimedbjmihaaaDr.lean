/-
  Contracts of spec.DrawSharedBox, spec.DrawTurnOf, spec.DrawSquareBetween, spec.DrawLengthBetween over this translation. Conditions: stated at each theorem.
-/
import Derived.Test.YtjnimedbjmihaaaCur
namespace Go.Proofs.Ytjnimedbjmihaaa
open Go.RowKit Go.Sort

theorem CodeRow.below {B : Nat} {A : Option Addr} {n : Nat} {w w' : World} (h : CodeRow B A n w) (hb : Below B w w') {B' : Nat} (hB : B ≤ B') : CodeRow B' A n w' := fun j hj => by
  obtain ⟨a, b, ha, hab, h2, hc⟩ := h j hj
  have hblk : (a.add j).block = a.block := by unfold Addr.add; split <;> rfl
  exact ⟨a, b, ha, Nat.lt_of_lt_of_le hab hB, h2, (hb.cell (by rw [hblk]; exact hab)).trans hc⟩
theorem below_of {w w1 w2 : World} {B g : Nat} (h : Below B w w1) (hg : w1.grownBy w2 (some g)) (hs : B ≤ w1.heap.size) (hB : B ≤ g) : Below B w w2 :=
  h.grown hg hs (fun k e => by have := Option.some.inj e; omega)
def TwoBoxes (w : World) (e : Ending) (w' : World) : Prop :=
  ∃ a b c d a' b' c' d' : Int, e = .returned (.tuple #[.agg #[.int .i64 a, .int .i64 b, .int .i64 c, .int .i64 d], .agg #[.int .i64 a', .int .i64 b', .int .i64 c', .int .i64 d']]) ∧ Below w.heap.size w w'
def TwoSpots (w : World) (e : Ending) (w' : World) : Prop :=
  ∃ x0 y0 x1 y1 : Int, e = .returned (.tuple #[.agg #[.int .i64 x0, .int .i64 y0], .agg #[.int .i64 x1, .int .i64 y1]]) ∧ Below w.heap.size w w'
def ThreeSpots (w : World) (e : Ending) (w' : World) : Prop :=
  ∃ x0 y0 x1 y1 x2 y2 : Int, e = .returned (.tuple #[.agg #[.int .i64 x0, .int .i64 y0], .agg #[.int .i64 x1, .int .i64 y1], .agg #[.int .i64 x2, .int .i64 y2]]) ∧ Below w.heap.size w w'
set_option maxHeartbeats 400000 in
theorem draw_shared (A : Option Addr) (n c : Nat) (w : World) (h : CodeRow w.heap.size A n w) : Calls Try.prog 34 #[.slice A n c] w (TwoBoxes w) := by
  obtain ⟨W0, hW0⟩ : ∃ W0, W0 = ((w.alloc (.cells #[.int .i64 0, .int .i64 0, .int .i64 0, .int .i64 0] 35)).alloc (.cells #[.int .i64 0, .int .i64 0, .int .i64 0, .int .i64 0] 35)) := ⟨_, rfl⟩
  have HB0 : Hid (Below w.heap.size w W0 ∧ W0.heap.size = w.heap.size + 1 + 1 ∧ Has W0 (w.heap.size) [.int .i64 0, .int .i64 0, .int .i64 0, .int .i64 0] ∧ Has W0 (w.heap.size + 1) [.int .i64 0, .int .i64 0, .int .i64 0, .int .i64 0]) := by
    rw [hW0]
    exact ⟨(box2 (Below.refl _ _)).1, by simp, (box2 (Below.refl _ _)).2.1, (box2 (Below.refl _ _)).2.2⟩
  have HE := Lib.hid hW0
  have hz := HB0.out.2.1
  have HC0 : Hid (Cur (w.heap.size + 1 + 1) A n c (w.heap.size + 1 + 1) 0 (W0.alloc (.cells #[.slice A n c, .int .i64 0, .int .u64 0] 76))) := by
    have := cur_new W0 A n c 76 (h.below HB0.out.1 HB0.out.1.size)
    rw [hz] at this
    exact this
  have HB := Lib.hid (HB0.out.1.alloc HB0.out.1.size (.cells #[.slice A n c, .int .i64 0, .int .u64 0] 76))
  have HR0 := Lib.hid (HB0.out.2.2.1.alloc (.cells #[.slice A n c, .int .i64 0, .int .u64 0] 76))
  have HR1 := Lib.hid (HB0.out.2.2.2.alloc (.cells #[.slice A n c, .int .i64 0, .int .u64 0] 76))
  clear hW0 h hz
  go_enter Try.func34, Try.ntmps34
  go_wp2_with fail
  rw [← HE.out]
  refine (box_any _ _ _ _ _ _ _ HC0.out (by omega)).mono ?_
  rintro e w1 ⟨v00, v01, v02, v03, k0, ka0, kb0, rfl, hc, hg⟩
  have HC1 := Lib.hid hc
  have HB := Lib.hid (below_of HB.out hg HB.out.size (by omega))
  have HR0 := Lib.hid (has_grown HR0.out hg (fun e => by have := Option.some.inj e; omega))
  have HR1 := Lib.hid (has_grown HR1.out hg (fun e => by have := Option.some.inj e; omega))
  clear hc hg
  go_wp2_with fail
  refine (box_any _ _ _ _ _ _ _ HC1.out (by omega)).mono ?_
  rintro e w2 ⟨v10, v11, v12, v13, k1, ka1, kb1, rfl, hc, hg⟩
  have HC2 := Lib.hid hc
  have HB := Lib.hid (below_of HB.out hg HB.out.size (by omega))
  have HR0 := Lib.hid (has_grown HR0.out hg (fun e => by have := Option.some.inj e; omega))
  have HR1 := Lib.hid (has_grown HR1.out hg (fun e => by have := Option.some.inj e; omega))
  clear hc hg
  have r00 := HR0.out.at_ 0 _ rfl
  have f00 := HR0.out.free 0
  have r01 := HR0.out.at_ 1 _ rfl
  have f01 := HR0.out.free 1
  have r02 := HR0.out.at_ 2 _ rfl
  have f02 := HR0.out.free 2
  have r03 := HR0.out.at_ 3 _ rfl
  have f03 := HR0.out.free 3
  have r10 := HR1.out.at_ 0 _ rfl
  have f10 := HR1.out.free 0
  have r11 := HR1.out.at_ 1 _ rfl
  have f11 := HR1.out.free 1
  have r12 := HR1.out.at_ 2 _ rfl
  have f12 := HR1.out.free 2
  have r13 := HR1.out.at_ 3 _ rfl
  have f13 := HR1.out.free 3
  go_wp2_with fail
  have HF0 := Lib.hid ((((((((HR0.out.set 0 (.int .i64 v00)).set 1 (.int .i64 v01)).set 2 (.int .i64 v02)).set 3 (.int .i64 v03)).far (p := ⟨w.heap.size + 1, 0, none⟩) (by simp; try omega) (.int .i64 v10)).far (p := ⟨w.heap.size + 1, 1, none⟩) (by simp; try omega) (.int .i64 v11)).far (p := ⟨w.heap.size + 1, 2, none⟩) (by simp; try omega) (.int .i64 v12)).far (p := ⟨w.heap.size + 1, 3, none⟩) (by simp; try omega) (.int .i64 v13))
  have HF1 := Lib.hid ((((((((HR1.out.far (p := ⟨w.heap.size, 0, none⟩) (by simp; try omega) (.int .i64 v00)).far (p := ⟨w.heap.size, 1, none⟩) (by simp; try omega) (.int .i64 v01)).far (p := ⟨w.heap.size, 2, none⟩) (by simp; try omega) (.int .i64 v02)).far (p := ⟨w.heap.size, 3, none⟩) (by simp; try omega) (.int .i64 v03)).set 0 (.int .i64 v10)).set 1 (.int .i64 v11)).set 2 (.int .i64 v12)).set 3 (.int .i64 v13))
  have HBF := Lib.hid ((((((((HB.out.setCell (p := ⟨w.heap.size, 0, none⟩) (by simp; try omega) (.int .i64 v00)).setCell (p := ⟨w.heap.size, 1, none⟩) (by simp; try omega) (.int .i64 v01)).setCell (p := ⟨w.heap.size, 2, none⟩) (by simp; try omega) (.int .i64 v02)).setCell (p := ⟨w.heap.size, 3, none⟩) (by simp; try omega) (.int .i64 v03)).setCell (p := ⟨w.heap.size + 1, 0, none⟩) (by simp; try omega) (.int .i64 v10)).setCell (p := ⟨w.heap.size + 1, 1, none⟩) (by simp; try omega) (.int .i64 v11)).setCell (p := ⟨w.heap.size + 1, 2, none⟩) (by simp; try omega) (.int .i64 v12)).setCell (p := ⟨w.heap.size + 1, 3, none⟩) (by simp; try omega) (.int .i64 v13))
  clear r00 f00 r01 f01 r02 f02 r03 f03 r10 f10 r11 f11 r12 f12 r13 f13
  obtain ⟨Wf, hWf⟩ : ∃ Wf, Wf = ((((((((w2.setCell ⟨w.heap.size, 0, none⟩ (.int .i64 v00)).setCell ⟨w.heap.size, 1, none⟩ (.int .i64 v01)).setCell ⟨w.heap.size, 2, none⟩ (.int .i64 v02)).setCell ⟨w.heap.size, 3, none⟩ (.int .i64 v03)).setCell ⟨w.heap.size + 1, 0, none⟩ (.int .i64 v10)).setCell ⟨w.heap.size + 1, 1, none⟩ (.int .i64 v11)).setCell ⟨w.heap.size + 1, 2, none⟩ (.int .i64 v12)).setCell ⟨w.heap.size + 1, 3, none⟩ (.int .i64 v13)) := ⟨_, rfl⟩
  rw [← hWf] at HF0 HF1 HBF
  rw [← hWf]
  clear hWf
  have r00 : Wf.cell? ⟨w.heap.size, 0, none⟩ = some (.int .i64 v00) := HF0.out.at_ 0 _ rfl
  have r01 : Wf.cell? ⟨w.heap.size, 1, none⟩ = some (.int .i64 v01) := HF0.out.at_ 1 _ rfl
  have r02 : Wf.cell? ⟨w.heap.size, 2, none⟩ = some (.int .i64 v02) := HF0.out.at_ 2 _ rfl
  have r03 : Wf.cell? ⟨w.heap.size, 3, none⟩ = some (.int .i64 v03) := HF0.out.at_ 3 _ rfl
  have r10 : Wf.cell? ⟨w.heap.size + 1, 0, none⟩ = some (.int .i64 v10) := HF1.out.at_ 0 _ rfl
  have r11 : Wf.cell? ⟨w.heap.size + 1, 1, none⟩ = some (.int .i64 v11) := HF1.out.at_ 1 _ rfl
  have r12 : Wf.cell? ⟨w.heap.size + 1, 2, none⟩ = some (.int .i64 v12) := HF1.out.at_ 2 _ rfl
  have r13 : Wf.cell? ⟨w.heap.size + 1, 3, none⟩ = some (.int .i64 v13) := HF1.out.at_ 3 _ rfl
  refine bodyPost_ret (v := .tuple #[.agg #[.int .i64 v00, .int .i64 v01, .int .i64 v02, .int .i64 v03], .agg #[.int .i64 v10, .int .i64 v11, .int .i64 v12, .int .i64 v13]]) (by simp [results, Try.results34, go_sem, r00, r01, r02, r03, r10, r11, r12, r13]) rfl ⟨_, _, _, _, _, _, _, _, rfl, HBF.out⟩
set_option maxHeartbeats 400000 in
theorem draw_turn (A : Option Addr) (n c : Nat) (w : World) (h : CodeRow w.heap.size A n w) : Calls Try.prog 38 #[.slice A n c] w (ThreeSpots w) := by
  obtain ⟨W0, hW0⟩ : ∃ W0, W0 = (((w.alloc (.cells #[.int .i64 0, .int .i64 0] 26)).alloc (.cells #[.int .i64 0, .int .i64 0] 26)).alloc (.cells #[.int .i64 0, .int .i64 0] 26)) := ⟨_, rfl⟩
  have HB0 : Hid (Below w.heap.size w W0 ∧ W0.heap.size = w.heap.size + 1 + 1 + 1 ∧ Has W0 (w.heap.size) [.int .i64 0, .int .i64 0] ∧ Has W0 (w.heap.size + 1) [.int .i64 0, .int .i64 0] ∧ Has W0 (w.heap.size + 1 + 1) [.int .i64 0, .int .i64 0]) := by
    rw [hW0]
    exact ⟨(box3 (Below.refl _ _)).1, by simp, (box3 (Below.refl _ _)).2.1, (box3 (Below.refl _ _)).2.2.1, (box3 (Below.refl _ _)).2.2.2⟩
  have HE := Lib.hid hW0
  have hz := HB0.out.2.1
  have HC0 : Hid (Cur (w.heap.size + 1 + 1 + 1) A n c (w.heap.size + 1 + 1 + 1) 0 (W0.alloc (.cells #[.slice A n c, .int .i64 0, .int .u64 0] 76))) := by
    have := cur_new W0 A n c 76 (h.below HB0.out.1 HB0.out.1.size)
    rw [hz] at this
    exact this
  have HB := Lib.hid (HB0.out.1.alloc HB0.out.1.size (.cells #[.slice A n c, .int .i64 0, .int .u64 0] 76))
  have HR0 := Lib.hid (HB0.out.2.2.1.alloc (.cells #[.slice A n c, .int .i64 0, .int .u64 0] 76))
  have HR1 := Lib.hid (HB0.out.2.2.2.1.alloc (.cells #[.slice A n c, .int .i64 0, .int .u64 0] 76))
  have HR2 := Lib.hid (HB0.out.2.2.2.2.alloc (.cells #[.slice A n c, .int .i64 0, .int .u64 0] 76))
  clear hW0 h hz
  go_enter Try.func38, Try.ntmps38
  go_wp2_with fail
  rw [← HE.out]
  refine (spot_any _ _ _ _ _ _ _ HC0.out (by omega)).mono ?_
  rintro e w1 ⟨v00, v01, k0, _, _, ka0, kb0, rfl, hc, hg⟩
  have HC1 := Lib.hid hc
  have HB := Lib.hid (below_of HB.out hg HB.out.size (by omega))
  have HR0 := Lib.hid (has_grown HR0.out hg (fun e => by have := Option.some.inj e; omega))
  have HR1 := Lib.hid (has_grown HR1.out hg (fun e => by have := Option.some.inj e; omega))
  have HR2 := Lib.hid (has_grown HR2.out hg (fun e => by have := Option.some.inj e; omega))
  clear hc hg
  go_wp2_with fail
  refine (spot_any _ _ _ _ _ _ _ HC1.out (by omega)).mono ?_
  rintro e w2 ⟨v10, v11, k1, _, _, ka1, kb1, rfl, hc, hg⟩
  have HC2 := Lib.hid hc
  have HB := Lib.hid (below_of HB.out hg HB.out.size (by omega))
  have HR0 := Lib.hid (has_grown HR0.out hg (fun e => by have := Option.some.inj e; omega))
  have HR1 := Lib.hid (has_grown HR1.out hg (fun e => by have := Option.some.inj e; omega))
  have HR2 := Lib.hid (has_grown HR2.out hg (fun e => by have := Option.some.inj e; omega))
  clear hc hg
  go_wp2_with fail
  refine (spot_any _ _ _ _ _ _ _ HC2.out (by omega)).mono ?_
  rintro e w3 ⟨v20, v21, k2, _, _, ka2, kb2, rfl, hc, hg⟩
  have HC3 := Lib.hid hc
  have HB := Lib.hid (below_of HB.out hg HB.out.size (by omega))
  have HR0 := Lib.hid (has_grown HR0.out hg (fun e => by have := Option.some.inj e; omega))
  have HR1 := Lib.hid (has_grown HR1.out hg (fun e => by have := Option.some.inj e; omega))
  have HR2 := Lib.hid (has_grown HR2.out hg (fun e => by have := Option.some.inj e; omega))
  clear hc hg
  have r00 := HR0.out.at_ 0 _ rfl
  have f00 := HR0.out.free 0
  have r01 := HR0.out.at_ 1 _ rfl
  have f01 := HR0.out.free 1
  have r10 := HR1.out.at_ 0 _ rfl
  have f10 := HR1.out.free 0
  have r11 := HR1.out.at_ 1 _ rfl
  have f11 := HR1.out.free 1
  have r20 := HR2.out.at_ 0 _ rfl
  have f20 := HR2.out.free 0
  have r21 := HR2.out.at_ 1 _ rfl
  have f21 := HR2.out.free 1
  go_wp2_with fail
  have HF0 := Lib.hid ((((((HR0.out.set 0 (.int .i64 v00)).set 1 (.int .i64 v01)).far (p := ⟨w.heap.size + 1, 0, none⟩) (by simp; try omega) (.int .i64 v10)).far (p := ⟨w.heap.size + 1, 1, none⟩) (by simp; try omega) (.int .i64 v11)).far (p := ⟨w.heap.size + 1 + 1, 0, none⟩) (by simp; try omega) (.int .i64 v20)).far (p := ⟨w.heap.size + 1 + 1, 1, none⟩) (by simp; try omega) (.int .i64 v21))
  have HF1 := Lib.hid ((((((HR1.out.far (p := ⟨w.heap.size, 0, none⟩) (by simp; try omega) (.int .i64 v00)).far (p := ⟨w.heap.size, 1, none⟩) (by simp; try omega) (.int .i64 v01)).set 0 (.int .i64 v10)).set 1 (.int .i64 v11)).far (p := ⟨w.heap.size + 1 + 1, 0, none⟩) (by simp; try omega) (.int .i64 v20)).far (p := ⟨w.heap.size + 1 + 1, 1, none⟩) (by simp; try omega) (.int .i64 v21))
  have HF2 := Lib.hid ((((((HR2.out.far (p := ⟨w.heap.size, 0, none⟩) (by simp; try omega) (.int .i64 v00)).far (p := ⟨w.heap.size, 1, none⟩) (by simp; try omega) (.int .i64 v01)).far (p := ⟨w.heap.size + 1, 0, none⟩) (by simp; try omega) (.int .i64 v10)).far (p := ⟨w.heap.size + 1, 1, none⟩) (by simp; try omega) (.int .i64 v11)).set 0 (.int .i64 v20)).set 1 (.int .i64 v21))
  have HBF := Lib.hid ((((((HB.out.setCell (p := ⟨w.heap.size, 0, none⟩) (by simp; try omega) (.int .i64 v00)).setCell (p := ⟨w.heap.size, 1, none⟩) (by simp; try omega) (.int .i64 v01)).setCell (p := ⟨w.heap.size + 1, 0, none⟩) (by simp; try omega) (.int .i64 v10)).setCell (p := ⟨w.heap.size + 1, 1, none⟩) (by simp; try omega) (.int .i64 v11)).setCell (p := ⟨w.heap.size + 1 + 1, 0, none⟩) (by simp; try omega) (.int .i64 v20)).setCell (p := ⟨w.heap.size + 1 + 1, 1, none⟩) (by simp; try omega) (.int .i64 v21))
  clear r00 f00 r01 f01 r10 f10 r11 f11 r20 f20 r21 f21
  obtain ⟨Wf, hWf⟩ : ∃ Wf, Wf = ((((((w3.setCell ⟨w.heap.size, 0, none⟩ (.int .i64 v00)).setCell ⟨w.heap.size, 1, none⟩ (.int .i64 v01)).setCell ⟨w.heap.size + 1, 0, none⟩ (.int .i64 v10)).setCell ⟨w.heap.size + 1, 1, none⟩ (.int .i64 v11)).setCell ⟨w.heap.size + 1 + 1, 0, none⟩ (.int .i64 v20)).setCell ⟨w.heap.size + 1 + 1, 1, none⟩ (.int .i64 v21)) := ⟨_, rfl⟩
  rw [← hWf] at HF0 HF1 HF2 HBF
  rw [← hWf]
  clear hWf
  have r00 : Wf.cell? ⟨w.heap.size, 0, none⟩ = some (.int .i64 v00) := HF0.out.at_ 0 _ rfl
  have r01 : Wf.cell? ⟨w.heap.size, 1, none⟩ = some (.int .i64 v01) := HF0.out.at_ 1 _ rfl
  have r10 : Wf.cell? ⟨w.heap.size + 1, 0, none⟩ = some (.int .i64 v10) := HF1.out.at_ 0 _ rfl
  have r11 : Wf.cell? ⟨w.heap.size + 1, 1, none⟩ = some (.int .i64 v11) := HF1.out.at_ 1 _ rfl
  have r20 : Wf.cell? ⟨w.heap.size + 1 + 1, 0, none⟩ = some (.int .i64 v20) := HF2.out.at_ 0 _ rfl
  have r21 : Wf.cell? ⟨w.heap.size + 1 + 1, 1, none⟩ = some (.int .i64 v21) := HF2.out.at_ 1 _ rfl
  refine bodyPost_ret (v := .tuple #[.agg #[.int .i64 v00, .int .i64 v01], .agg #[.int .i64 v10, .int .i64 v11], .agg #[.int .i64 v20, .int .i64 v21]]) (by simp [results, Try.results38, go_sem, r00, r01, r10, r11, r20, r21]) rfl ⟨_, _, _, _, _, _, rfl, HBF.out⟩
set_option maxHeartbeats 400000 in
theorem draw_square (A : Option Addr) (n c : Nat) (w : World) (h : CodeRow w.heap.size A n w) : Calls Try.prog 32 #[.slice A n c] w (TwoSpots w) := by
  obtain ⟨W0, hW0⟩ : ∃ W0, W0 = ((w.alloc (.cells #[.int .i64 0, .int .i64 0] 26)).alloc (.cells #[.int .i64 0, .int .i64 0] 26)) := ⟨_, rfl⟩
  have HB0 : Hid (Below w.heap.size w W0 ∧ W0.heap.size = w.heap.size + 1 + 1 ∧ Has W0 (w.heap.size) [.int .i64 0, .int .i64 0] ∧ Has W0 (w.heap.size + 1) [.int .i64 0, .int .i64 0]) := by
    rw [hW0]
    exact ⟨(box2 (Below.refl _ _)).1, by simp, (box2 (Below.refl _ _)).2.1, (box2 (Below.refl _ _)).2.2⟩
  have HE := Lib.hid hW0
  have hz := HB0.out.2.1
  have HC0 : Hid (Cur (w.heap.size + 1 + 1) A n c (w.heap.size + 1 + 1) 0 (W0.alloc (.cells #[.slice A n c, .int .i64 0, .int .u64 0] 76))) := by
    have := cur_new W0 A n c 76 (h.below HB0.out.1 HB0.out.1.size)
    rw [hz] at this
    exact this
  have HB := Lib.hid (HB0.out.1.alloc HB0.out.1.size (.cells #[.slice A n c, .int .i64 0, .int .u64 0] 76))
  have HR0 := Lib.hid (HB0.out.2.2.1.alloc (.cells #[.slice A n c, .int .i64 0, .int .u64 0] 76))
  have HR1 := Lib.hid (HB0.out.2.2.2.alloc (.cells #[.slice A n c, .int .i64 0, .int .u64 0] 76))
  clear hW0 h hz
  go_enter Try.func32, Try.ntmps32
  go_wp2_with fail
  rw [← HE.out]
  refine (spot_any _ _ _ _ _ _ _ HC0.out (by omega)).mono ?_
  rintro e w1 ⟨v00, v01, k0, _, _, ka0, kb0, rfl, hc, hg⟩
  have HC1 := Lib.hid hc
  have HB := Lib.hid (below_of HB.out hg HB.out.size (by omega))
  have HR0 := Lib.hid (has_grown HR0.out hg (fun e => by have := Option.some.inj e; omega))
  have HR1 := Lib.hid (has_grown HR1.out hg (fun e => by have := Option.some.inj e; omega))
  clear hc hg
  go_wp2_with fail
  refine (spot_any _ _ _ _ _ _ _ HC1.out (by omega)).mono ?_
  rintro e w2 ⟨v10, v11, k1, _, _, ka1, kb1, rfl, hc, hg⟩
  have HC2 := Lib.hid hc
  have HB := Lib.hid (below_of HB.out hg HB.out.size (by omega))
  have HR0 := Lib.hid (has_grown HR0.out hg (fun e => by have := Option.some.inj e; omega))
  have HR1 := Lib.hid (has_grown HR1.out hg (fun e => by have := Option.some.inj e; omega))
  clear hc hg
  have r00 := HR0.out.at_ 0 _ rfl
  have f00 := HR0.out.free 0
  have r01 := HR0.out.at_ 1 _ rfl
  have f01 := HR0.out.free 1
  have r10 := HR1.out.at_ 0 _ rfl
  have f10 := HR1.out.free 0
  have r11 := HR1.out.at_ 1 _ rfl
  have f11 := HR1.out.free 1
  go_wp2_with fail
  have HF0 := Lib.hid ((((HR0.out.set 0 (.int .i64 v00)).set 1 (.int .i64 v01)).far (p := ⟨w.heap.size + 1, 0, none⟩) (by simp; try omega) (.int .i64 v10)).far (p := ⟨w.heap.size + 1, 1, none⟩) (by simp; try omega) (.int .i64 v11))
  have HF1 := Lib.hid ((((HR1.out.far (p := ⟨w.heap.size, 0, none⟩) (by simp; try omega) (.int .i64 v00)).far (p := ⟨w.heap.size, 1, none⟩) (by simp; try omega) (.int .i64 v01)).set 0 (.int .i64 v10)).set 1 (.int .i64 v11))
  have HBF := Lib.hid ((((HB.out.setCell (p := ⟨w.heap.size, 0, none⟩) (by simp; try omega) (.int .i64 v00)).setCell (p := ⟨w.heap.size, 1, none⟩) (by simp; try omega) (.int .i64 v01)).setCell (p := ⟨w.heap.size + 1, 0, none⟩) (by simp; try omega) (.int .i64 v10)).setCell (p := ⟨w.heap.size + 1, 1, none⟩) (by simp; try omega) (.int .i64 v11))
  clear r00 f00 r01 f01 r10 f10 r11 f11
  obtain ⟨Wf, hWf⟩ : ∃ Wf, Wf = ((((w2.setCell ⟨w.heap.size, 0, none⟩ (.int .i64 v00)).setCell ⟨w.heap.size, 1, none⟩ (.int .i64 v01)).setCell ⟨w.heap.size + 1, 0, none⟩ (.int .i64 v10)).setCell ⟨w.heap.size + 1, 1, none⟩ (.int .i64 v11)) := ⟨_, rfl⟩
  rw [← hWf] at HF0 HF1 HBF
  rw [← hWf]
  clear hWf
  have r00 : Wf.cell? ⟨w.heap.size, 0, none⟩ = some (.int .i64 v00) := HF0.out.at_ 0 _ rfl
  have r01 : Wf.cell? ⟨w.heap.size, 1, none⟩ = some (.int .i64 v01) := HF0.out.at_ 1 _ rfl
  have r10 : Wf.cell? ⟨w.heap.size + 1, 0, none⟩ = some (.int .i64 v10) := HF1.out.at_ 0 _ rfl
  have r11 : Wf.cell? ⟨w.heap.size + 1, 1, none⟩ = some (.int .i64 v11) := HF1.out.at_ 1 _ rfl
  refine bodyPost_ret (v := .tuple #[.agg #[.int .i64 v00, .int .i64 v01], .agg #[.int .i64 v10, .int .i64 v11]]) (by simp [results, Try.results32, go_sem, r00, r01, r10, r11]) rfl ⟨_, _, _, _, rfl, HBF.out⟩
set_option maxHeartbeats 800000 in
theorem draw_len (A : Option Addr) (n c : Nat) (w : World) (h : CodeRow w.heap.size A n w) : Calls Try.prog 41 #[.slice A n c] w (TwoSpots w) := by
  have HQ := Lib.hid (draw_square A n c ((w.alloc (.cells #[.int .i64 0, .int .i64 0] 26)).alloc (.cells #[.int .i64 0, .int .i64 0] 26)) (h.below (box2 (Below.refl _ _)).1 (by simp; omega)))
  clear h
  go_enter Try.func41, Try.ntmps41
  go_wp2_with fail
  refine HQ.out.mono ?_
  rintro e w1 ⟨x0, y0, x1, y1, rfl, hb⟩
  have HB := Lib.hid (box2 hb)
  clear hb
  have r00 := HB.out.2.1.at_ 0 _ rfl
  have r01 := HB.out.2.1.at_ 1 _ rfl
  have r10 := HB.out.2.2.at_ 0 _ rfl
  have r11 := HB.out.2.2.at_ 1 _ rfl
  have f00 := HB.out.2.1.free 0
  have f01 := HB.out.2.1.free 1
  have f10 := HB.out.2.2.free 0
  have f11 := HB.out.2.2.free 1
  go_wp2_with fail
  refine bodyPost_ret (v := .tuple #[.agg #[.int .i64 x0, .int .i64 y0], .agg #[.int .i64 x1, .int .i64 y1]]) (by simp [results, Try.results41, go_sem, r00, r01, r10, r11]) rfl ⟨_, _, _, _, rfl, ?_⟩
  repeat (first | exact HB.out.1 | refine Below.setCell ?_ (by simp; try omega) _)
end Go.Proofs.Ytjnimedbjmihaaa
