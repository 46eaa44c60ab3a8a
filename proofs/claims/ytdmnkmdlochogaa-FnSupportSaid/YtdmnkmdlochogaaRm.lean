/-
  Draws with soundings: contracts of spec.DrawAreSoundings, DrawMeanDepth, DrawSupportedDepth, DrawShoalestIn, DrawLowerAll over this translation. Conditions: stated at each theorem.
-/
import Derived.Test.YtdmnkmdlochogaaRu
namespace Go.Proofs.Ytdmnkmdlochogaa
open Go.RowKit Go.Sort
set_option linter.unusedVariables false

/-- A row of soundings that is drawn. -/
def DrawnS (w : World) (L : List SD) (gb cap : Nat) (w' : World) : Prop :=
  L.length ≤ 13 ∧ Ids L ∧ L.length ≤ cap ∧ Sds w' w'.heap.size (some ⟨gb, 0, none⟩) L.length L ∧ Below w.heap.size w w'
def DrawS0 (w : World) (e : Ending) (w' : World) : Prop := ∃ (L : List SD) (gb cap : Nat), e = .returned (.slice (some ⟨gb, 0, none⟩) L.length cap) ∧ DrawnS w L gb cap w'
def DrawS2 (w : World) (e : Ending) (w' : World) : Prop := ∃ (L : List SD) (gb cap : Nat) (x y : Int), e = .returned (.tuple #[.slice (some ⟨gb, 0, none⟩) L.length cap, .int .i64 x, .int .i64 y]) ∧ DrawnS w L gb cap w'
def DrawSP (w : World) (e : Ending) (w' : World) : Prop := ∃ (L : List SD) (gb cap : Nat) (x y r : Int), e = .returned (.tuple #[.slice (some ⟨gb, 0, none⟩) L.length cap, .agg #[.int .i64 x, .int .i64 y], .int .i64 r]) ∧ DrawnS w L gb cap w'
def DrawSB (w : World) (e : Ending) (w' : World) : Prop := ∃ (L : List SD) (gb cap : Nat) (x y z u : Int), e = .returned (.tuple #[.slice (some ⟨gb, 0, none⟩) L.length cap, .agg #[.int .i64 x, .int .i64 y, .int .i64 z, .int .i64 u]]) ∧ DrawnS w L gb cap w'
theorem below_reader {w W : World} {o : Obj} (hg : (w.alloc o).grownBy W (some w.heap.size)) : Below w.heap.size w W := below_of ((Below.refl w.heap.size w).alloc (Nat.le_refl _) o) hg (by simp) (Nat.le_refl _)
theorem below_reader1 {w W : World} {o o' : Obj} (hg : ((w.alloc o).alloc o').grownBy W (some (w.heap.size + 1))) : Below w.heap.size w W := below_of (((Below.refl w.heap.size w).alloc (Nat.le_refl _) o).alloc (by simp) o') hg (by simp; omega) (by omega)
set_option maxRecDepth 20000 in
set_option maxHeartbeats 3200000 in
theorem draw_sounds (A : Option Addr) (n c : Nat) (w : World) (h : CodeRow w.heap.size A n w) : Calls Try.prog 141 #[.slice A n c] w (DrawS0 w) := by
  have HC0 := Lib.hid (cur_new w A n c 118 h)
  clear h
  go_enter Try.func141, Try.ntmps141
  go_wp2_with fail
  refine (sounds_any _ _ _ _ _ _ _ HC0.out (by omega)).mono ?_
  rintro e w1 ⟨L, gb, cap, k1, hl, hN, hk1, hk2, hgb, hcap, rfl, hR, hC, hg⟩
  have HD : Hid (DrawnS w L gb cap w1) := Lib.hid ⟨hl, hN, hcap, hR.sds, below_reader hg⟩
  clear hR hC hg hN
  go_wp2_with fail
  go_ret
  exact ⟨L, gb, cap, rfl, HD.out⟩
theorem draw_mean (A : Option Addr) (n c : Nat) (w : World) (h : CodeRow w.heap.size A n w) : Calls Try.prog 67 #[.slice A n c] w (DrawS0 w) := by
  have H := Lib.hid (draw_sounds A n c w h)
  clear h
  go_enter Try.func67, Try.ntmps67
  go_wp2_with fail
  refine H.out.mono ?_
  rintro e w1 ⟨L, gb, cap, rfl, hd⟩
  have HD := Lib.hid hd
  clear hd
  go_wp2_with fail
  go_ret
  exact ⟨L, gb, cap, rfl, HD.out⟩
set_option maxRecDepth 20000 in
set_option maxHeartbeats 3200000 in
theorem draw_lower (A : Option Addr) (n c : Nat) (w : World) (h : CodeRow w.heap.size A n w) : Calls Try.prog 70 #[.slice A n c] w (DrawS2 w) := by
  have HC0 := Lib.hid (cur_new w A n c 118 h)
  clear h
  go_enter Try.func70, Try.ntmps70
  go_wp2_with fail
  refine (sounds_any _ _ _ _ _ _ _ HC0.out (by omega)).mono ?_
  rintro e w1 ⟨L, gb, cap, k1, hl, hN, hk1, hk2, hgb, hcap, rfl, hR, hC, hg⟩
  have HR1 := Lib.hid hR
  have HC1 := Lib.hid hC
  have HG1 := Lib.hid hg
  have HN := Lib.hid hN
  have hz : w.heap.size < (w.alloc (.cells #[.slice A n c, .int .i64 0, .int .u64 0] 118)).heap.size := by simp
  clear hR hC hg hN HC0
  go_wp2_with fail
  refine (among_at AnyI _ _ _ _ _ _ _ 6 [0, 12, -40, 2000, 30000, 30001] _ HC1.out rfl (by omega) (by decide) (by decide) (fun _ _ => trivial)).mono ?_
  rintro e w2 ⟨x, _, rfl, hc, hg⟩
  have HC2 := Lib.hid hc
  have HG2 := Lib.hid (grown_trans HG1.out hg)
  have HR2 := Lib.hid (HR1.out.draw hg hz)
  clear hc hg HC1 HG1 HR1
  go_wp2_with fail
  refine (among_at AnyI _ _ _ _ _ _ _ 6 [0, 5, 20, 400, -1, 501] _ HC2.out rfl (by omega) (by decide) (by decide) (fun _ _ => trivial)).mono ?_
  rintro e w3 ⟨y, _, rfl, hc, hg⟩
  have HD : Hid (DrawnS w L gb cap w3) := Lib.hid ⟨hl, HN.out, hcap, (HR2.out.draw hg hz).sds, below_reader (grown_trans HG2.out hg)⟩
  clear hc hg HC2 HG2 HR2
  go_wp2_with fail
  go_ret3
  exact ⟨L, gb, cap, x, y, rfl, HD.out⟩
set_option maxRecDepth 20000 in
set_option maxHeartbeats 3200000 in
theorem draw_sup (A : Option Addr) (n c : Nat) (w : World) (h : CodeRow w.heap.size A n w) : Calls Try.prog 60 #[.slice A n c] w (DrawSP w) := by
  have hb0 : Below w.heap.size w (w.alloc (.cells #[.int .i64 0, .int .i64 0] 69)) := (Below.refl _ _).alloc (Nat.le_refl _) _
  have HC0 := Lib.hid (cur_new (w.alloc (.cells #[.int .i64 0, .int .i64 0] 69)) A n c 118 (h.below hb0 (by simp)))
  have HZ0 : Hid (Has ((w.alloc (.cells #[.int .i64 0, .int .i64 0] 69)).alloc (.cells #[.slice A n c, .int .i64 0, .int .u64 0] 118)) w.heap.size [.int .i64 0, .int .i64 0]) := Lib.hid ((show Has (w.alloc (.cells #[.int .i64 0, .int .i64 0] 69)) w.heap.size [.int .i64 0, .int .i64 0] by simpa using Has.new w #[.int .i64 0, .int .i64 0] 69).alloc _)
  have hzz : (w.alloc (.cells #[.int .i64 0, .int .i64 0] 69)).heap.size = w.heap.size + 1 := by simp
  rw [hzz] at HC0
  clear h hb0 hzz
  go_enter Try.func60, Try.ntmps60
  go_wp2_with fail
  refine (sounds_any _ _ _ _ _ _ _ HC0.out (by omega)).mono ?_
  rintro e w1 ⟨L, gb, cap, k1, hl, hN, hk1, hk2, hgb, hcap, rfl, hR, hC, hg⟩
  have HR1 := Lib.hid hR
  have HC1 := Lib.hid hC
  have HG1 := Lib.hid hg
  have HN := Lib.hid hN
  have HNE : Hid (some w.heap.size ≠ some (w.heap.size + 1)) := Lib.hid fun e => by have := Option.some.inj e; omega
  have HZ1 := Lib.hid (has_grown HZ0.out hg HNE.out)
  have hz : w.heap.size + 1 < ((w.alloc (.cells #[.int .i64 0, .int .i64 0] 69)).alloc (.cells #[.slice A n c, .int .i64 0, .int .u64 0] 118)).heap.size := by simp
  clear hR hC hg hN HC0 HZ0
  go_wp2_with fail
  refine (spot_any _ _ _ _ _ _ _ HC1.out (by omega)).mono ?_
  rintro e w2 ⟨x, y, k2, _, _, hk3, hk4, rfl, hc, hg⟩
  have HC2 := Lib.hid hc
  have HG2 := Lib.hid (grown_trans HG1.out hg)
  have HR2 := Lib.hid (HR1.out.draw hg hz)
  have HZ2 := Lib.hid (has_grown HZ1.out hg HNE.out)
  clear hc hg HC1 HG1 HR1 HZ1
  go_wp2_with fail
  refine (among_at AnyI _ _ _ _ _ _ _ 8 [0, 10, 30, 60, 200, 1000, 1001, -1] _ HC2.out rfl (by omega) (by decide) (by decide) (fun _ _ => trivial)).mono ?_
  rintro e w3 ⟨r, _, rfl, hc, hg⟩
  have HC3 := Lib.hid hc
  have HG3 := Lib.hid (grown_trans HG2.out hg)
  have HR3 := Lib.hid (HR2.out.draw hg hz)
  have HZ3 := Lib.hid (has_grown HZ2.out hg HNE.out)
  clear hc hg HC2 HG2 HR2 HZ2
  obtain ⟨W3, rfl⟩ : ∃ W : World, W = w3 := ⟨_, rfl⟩
  have z0 := HZ3.out.at_ 0 _ rfl
  have f0 := HZ3.out.free 0
  have z1 := HZ3.out.at_ 1 _ rfl
  have f1 := HZ3.out.free 1
  have HQ := Lib.hid ((HZ3.out.set 0 (.int .i64 x)).set 1 (.int .i64 y))
  have r0 := HQ.out.at_ 0 _ rfl
  have r1 := HQ.out.at_ 1 _ rfl
  have HD : Hid (DrawnS w L gb cap ((W3.setCell ⟨w.heap.size, 0, none⟩ (.int .i64 x)).setCell ⟨w.heap.size, 1, none⟩ (.int .i64 y))) := Lib.hid ⟨hl, HN.out, hcap, (show RS _ L _ _ from (own_any (own_any HR3.out (set_grown _ w.heap.size 0 (.int .i64 x)) (fun i e => by have := Option.some.inj e; have := hz; omega)) (set_grown _ w.heap.size 1 (.int .i64 y)) (fun i e => by have := Option.some.inj e; have := hz; omega))).sds, (Below.setCell (Below.setCell (below_reader1 HG3.out) (p := ⟨w.heap.size, 0, none⟩) (Nat.le_refl _) (.int .i64 x)) (p := ⟨w.heap.size, 1, none⟩) (Nat.le_refl _) (.int .i64 y))⟩
  clear HC3 HG3 HR3
  go_wp2_with fail
  refine bodyPost_ret (v := .tuple #[.slice (some ⟨gb, 0, none⟩) L.length cap, .agg #[.int .i64 x, .int .i64 y], .int .i64 r]) (by simp [results, Try.results60, go_sem, r0, r1]) rfl ⟨L, gb, cap, x, y, r, rfl, HD.out⟩
set_option maxRecDepth 20000 in
set_option maxHeartbeats 3200000 in
theorem draw_shin (A : Option Addr) (n c : Nat) (w : World) (h : CodeRow w.heap.size A n w) : Calls Try.prog 64 #[.slice A n c] w (DrawSB w) := by
  have hb0 : Below w.heap.size w (w.alloc (.cells #[.int .i64 0, .int .i64 0, .int .i64 0, .int .i64 0] 77)) := (Below.refl _ _).alloc (Nat.le_refl _) _
  have HC0 := Lib.hid (cur_new (w.alloc (.cells #[.int .i64 0, .int .i64 0, .int .i64 0, .int .i64 0] 77)) A n c 118 (h.below hb0 (by simp)))
  have HZ0 : Hid (Has ((w.alloc (.cells #[.int .i64 0, .int .i64 0, .int .i64 0, .int .i64 0] 77)).alloc (.cells #[.slice A n c, .int .i64 0, .int .u64 0] 118)) w.heap.size [.int .i64 0, .int .i64 0, .int .i64 0, .int .i64 0]) := Lib.hid ((show Has (w.alloc (.cells #[.int .i64 0, .int .i64 0, .int .i64 0, .int .i64 0] 77)) w.heap.size [.int .i64 0, .int .i64 0, .int .i64 0, .int .i64 0] by simpa using Has.new w #[.int .i64 0, .int .i64 0, .int .i64 0, .int .i64 0] 77).alloc _)
  have hzz : (w.alloc (.cells #[.int .i64 0, .int .i64 0, .int .i64 0, .int .i64 0] 77)).heap.size = w.heap.size + 1 := by simp
  rw [hzz] at HC0
  clear h hb0 hzz
  go_enter Try.func64, Try.ntmps64
  go_wp2_with fail
  refine (sounds_any _ _ _ _ _ _ _ HC0.out (by omega)).mono ?_
  rintro e w1 ⟨L, gb, cap, k1, hl, hN, hk1, hk2, hgb, hcap, rfl, hR, hC, hg⟩
  have HR1 := Lib.hid hR
  have HC1 := Lib.hid hC
  have HG1 := Lib.hid hg
  have HN := Lib.hid hN
  have HNE : Hid (some w.heap.size ≠ some (w.heap.size + 1)) := Lib.hid fun e => by have := Option.some.inj e; omega
  have HZ1 := Lib.hid (has_grown HZ0.out hg HNE.out)
  have hz : w.heap.size + 1 < ((w.alloc (.cells #[.int .i64 0, .int .i64 0, .int .i64 0, .int .i64 0] 77)).alloc (.cells #[.slice A n c, .int .i64 0, .int .u64 0] 118)).heap.size := by simp
  clear hR hC hg hN HC0 HZ0
  go_wp2_with fail
  refine (box_any _ _ _ _ _ _ _ HC1.out (by omega)).mono ?_
  rintro e w2 ⟨x, y, z, u, k2, hk3, hk4, rfl, hc, hg⟩
  have HC2 := Lib.hid hc
  have HG2 := Lib.hid (grown_trans HG1.out hg)
  have HR2 := Lib.hid (HR1.out.draw hg hz)
  have HZ2 := Lib.hid (has_grown HZ1.out hg HNE.out)
  clear hc hg HC1 HG1 HR1 HZ1
  obtain ⟨W3, rfl⟩ : ∃ W : World, W = w2 := ⟨_, rfl⟩
  have z0 := HZ2.out.at_ 0 _ rfl
  have f0 := HZ2.out.free 0
  have z1 := HZ2.out.at_ 1 _ rfl
  have f1 := HZ2.out.free 1
  have z2 := HZ2.out.at_ 2 _ rfl
  have f2 := HZ2.out.free 2
  have z3 := HZ2.out.at_ 3 _ rfl
  have f3 := HZ2.out.free 3
  have HQ := Lib.hid ((((HZ2.out.set 0 (.int .i64 x)).set 1 (.int .i64 y)).set 2 (.int .i64 z)).set 3 (.int .i64 u))
  have r0 := HQ.out.at_ 0 _ rfl
  have r1 := HQ.out.at_ 1 _ rfl
  have r2 := HQ.out.at_ 2 _ rfl
  have r3 := HQ.out.at_ 3 _ rfl
  have HD : Hid (DrawnS w L gb cap ((((W3.setCell ⟨w.heap.size, 0, none⟩ (.int .i64 x)).setCell ⟨w.heap.size, 1, none⟩ (.int .i64 y)).setCell ⟨w.heap.size, 2, none⟩ (.int .i64 z)).setCell ⟨w.heap.size, 3, none⟩ (.int .i64 u))) := Lib.hid ⟨hl, HN.out, hcap, (show RS _ L _ _ from (own_any (own_any (own_any (own_any HR2.out (set_grown _ w.heap.size 0 (.int .i64 x)) (fun i e => by have := Option.some.inj e; have := hz; omega)) (set_grown _ w.heap.size 1 (.int .i64 y)) (fun i e => by have := Option.some.inj e; have := hz; omega)) (set_grown _ w.heap.size 2 (.int .i64 z)) (fun i e => by have := Option.some.inj e; have := hz; omega)) (set_grown _ w.heap.size 3 (.int .i64 u)) (fun i e => by have := Option.some.inj e; have := hz; omega))).sds, (Below.setCell (Below.setCell (Below.setCell (Below.setCell (below_reader1 HG2.out) (p := ⟨w.heap.size, 0, none⟩) (Nat.le_refl _) (.int .i64 x)) (p := ⟨w.heap.size, 1, none⟩) (Nat.le_refl _) (.int .i64 y)) (p := ⟨w.heap.size, 2, none⟩) (Nat.le_refl _) (.int .i64 z)) (p := ⟨w.heap.size, 3, none⟩) (Nat.le_refl _) (.int .i64 u))⟩
  clear HC2 HG2 HR2
  go_wp2_with fail
  refine bodyPost_ret (v := .tuple #[.slice (some ⟨gb, 0, none⟩) L.length cap, .agg #[.int .i64 x, .int .i64 y, .int .i64 z, .int .i64 u]]) (by simp [results, Try.results64, go_sem, r0, r1, r2, r3]) rfl ⟨L, gb, cap, x, y, z, u, rfl, HD.out⟩
end Go.Proofs.Ytdmnkmdlochogaa
