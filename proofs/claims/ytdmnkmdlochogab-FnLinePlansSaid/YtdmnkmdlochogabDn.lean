/-
  Draws with lines: contracts of spec.l1Cur.lineOf, spec.DrawAreLines, DrawSailedOrder, DrawLineLengths, DrawCellsCovered, DrawCoverageOf, DrawUncoveredIn, DrawCellsIn, DrawPlanLines, DrawOverlapOf over this translation. Conditions: stated at each theorem.
-/
import Derived.Test.YtdmnkmdlochogabRn
namespace Go.Proofs.Ytdmnkmdlochogab
open Go.RowKit Go.Sort
set_option linter.unusedVariables false

/-- A row of lines that is drawn. -/
def DrawnN (w : World) (L : List LN) (gb cap : Nat) (w' : World) : Prop :=
  L.length ≤ 9 ∧ L.length ≤ cap ∧ SdsN w' w'.heap.size (some ⟨gb, 0, none⟩) L.length L ∧ Below w.heap.size w w'
def DrawN0 (w : World) (e : Ending) (w' : World) : Prop := ∃ (L : List LN) (gb cap : Nat), e = .returned (.slice (some ⟨gb, 0, none⟩) L.length cap) ∧ DrawnN w L gb cap w'
def DrawN1 (w : World) (e : Ending) (w' : World) : Prop := ∃ (L : List LN) (gb cap : Nat) (x : Int), e = .returned (.tuple #[.slice (some ⟨gb, 0, none⟩) L.length cap, .int .i64 x]) ∧ DrawnN w L gb cap w'
def DrawN2 (w : World) (e : Ending) (w' : World) : Prop := ∃ (L : List LN) (gb cap : Nat) (x y : Int), e = .returned (.tuple #[.slice (some ⟨gb, 0, none⟩) L.length cap, .int .i64 x, .int .i64 y]) ∧ DrawnN w L gb cap w'
def DrawNB (w : World) (e : Ending) (w' : World) : Prop := ∃ (L : List LN) (gb cap : Nat) (x y z u : Int), e = .returned (.tuple #[.slice (some ⟨gb, 0, none⟩) L.length cap, .agg #[.int .i64 x, .int .i64 y, .int .i64 z, .int .i64 u]]) ∧ DrawnN w L gb cap w'
def DrawB0 (w : World) (e : Ending) (w' : World) : Prop := ∃ (x y z u : Int), e = .returned (.agg #[.int .i64 x, .int .i64 y, .int .i64 z, .int .i64 u]) ∧ Below w.heap.size w w'
def DrawB1 (w : World) (e : Ending) (w' : World) : Prop := ∃ (x y z u s : Int), e = .returned (.tuple #[.agg #[.int .i64 x, .int .i64 y, .int .i64 z, .int .i64 u], .int .i64 s]) ∧ Below w.heap.size w w'
theorem below_readerN {w W : World} {o : Obj} (hg : (w.alloc o).grownBy W (some w.heap.size)) : Below w.heap.size w W := below_of ((Below.refl w.heap.size w).alloc (Nat.le_refl _) o) hg (by simp) (Nat.le_refl _)
theorem below_readerN1 {w W : World} {o o' : Obj} (hg : ((w.alloc o).alloc o').grownBy W (some (w.heap.size + 1))) : Below w.heap.size w W := below_of (((Below.refl w.heap.size w).alloc (Nat.le_refl _) o).alloc (by simp) o') hg (by simp; omega) (by omega)
theorem RN.at_ {base : Nat} {L : List LN} {gb cap : Nat} {W : World} (h : RN base L (.slice (some ⟨gb, 0, none⟩) L.length cap) W) {k : Nat} (hk : k < L.length) : W.cell? ⟨gb, k * 5, none⟩ = some (.int .i64 (lnAt L k).id) := by
  obtain ⟨b, o, v, hA, _, hL, p0, _⟩ := h.sds.2 k hk
  injection hA with hA
  injection hA with h1 h2
  subst h1 h2
  rw [lnAt_at hL]
  simpa using p0
set_option maxRecDepth 20000 in
set_option maxHeartbeats 3200000 in
theorem lineOf_any (B : Nat) (A : Option Addr) (n c g k : Nat) (L : List LN) (gb cap base : Nat) (w : World) (h : Cur B A n c g k w) (hk : k < 700000) (hR : RN base L (.slice (some ⟨gb, 0, none⟩) L.length cap) w) (hgb : g < base) (hl : L.length ≤ 9) :
    Calls Try.prog 99 #[.pointer (some ⟨g, 0, none⟩), .slice (some ⟨gb, 0, none⟩) L.length cap] w (IdPost B A n c g k w) := by
  have HC0 := Lib.hid h
  have HR0 := Lib.hid hR
  clear h hR
  go_enter Try.func99, Try.ntmps99
  rcases Nat.eq_zero_or_pos L.length with h0 | h0
  · rw [h0]
    clear HR0 h0
    go_wp2_with fail
    refine (among_at AnyI _ _ _ _ _ _ _ 3 [0, 1, 50] _ HC0.out rfl (by omega) (by decide) (by decide) (fun _ _ => trivial)).mono ?_
    rintro e w1 ⟨x, _, rfl, hc, hg⟩
    have HP : Hid (IdPost B A n c g k w (.returned (.int .i64 x)) w1) := Lib.hid ⟨x, _, by omega, by omega, rfl, hc, hg⟩
    clear hc hg HC0
    go_wp2_with fail
    go_ret
    exact HP.out
  have hne : ((L.length : Int) == 0) = false := beq_eq_false_iff_ne.2 (by omega)
  go_wp2_with fail
  refine (one_any _ _ _ _ _ _ 12 _ HC0.out (by omega) (by decide) (by decide)).mono ?_
  rintro e w1 ⟨b, rfl, hc, hg⟩
  have HC1 := Lib.hid hc
  have HG1 := Lib.hid hg
  have HR1 := Lib.hid (HR0.out.draw hg hgb)
  clear hc hg HC0 HR0
  rcases b with _ | _
  · go_wp2_with fail
    refine (pick_ge1 _ _ _ _ _ _ L.length _ HC1.out (by omega) (by omega) (by omega)).mono ?_
    rintro e w2 ⟨v, k2, hv, hk1, hk2, rfl, hc, hg⟩
    have HR2 := Lib.hid (HR1.out.draw hg hgb)
    have p0 := HR2.out.at_ hv
    have HP : Hid (IdPost B A n c g k w (.returned (.int .i64 (lnAt L v).id)) w2) := Lib.hid ⟨_, k2, by omega, by omega, rfl, hc, grown_trans HG1.out hg⟩
    clear hc hg HC1 HG1 HR1
    go_wp2_with fail
    go_ret
    exact HP.out
  · go_wp2_with fail
    refine (among_at AnyI _ _ _ _ _ _ _ 3 [0, 1, 50] _ HC1.out rfl (by omega) (by decide) (by decide) (fun _ _ => trivial)).mono ?_
    rintro e w2 ⟨x, _, rfl, hc, hg⟩
    have HP : Hid (IdPost B A n c g k w (.returned (.int .i64 x)) w2) := Lib.hid ⟨x, _, by omega, by omega, rfl, hc, grown_trans HG1.out hg⟩
    clear hc hg HC1 HG1 HR1
    go_wp2_with fail
    go_ret
    exact HP.out
set_option maxRecDepth 20000 in
set_option maxHeartbeats 3200000 in
theorem draw_lines (A : Option Addr) (n c : Nat) (w : World) (h : CodeRow w.heap.size A n w) : Calls Try.prog 92 #[.slice A n c] w (DrawN0 w) := by
  have HC0 := Lib.hid (cur_new w A n c 100 h)
  clear h
  go_enter Try.func92, Try.ntmps92
  go_wp2_with fail
  refine (lines_any _ _ _ _ _ _ _ HC0.out (by omega)).mono ?_
  rintro e w1 ⟨L, gb, cap, k1, hl, hk1, hk2, hgb, hcap, rfl, hR, hC, hg⟩
  have HD : Hid (DrawnN w L gb cap w1) := Lib.hid ⟨hl, hcap, hR.sds, below_readerN hg⟩
  clear hR hC hg
  go_wp2_with fail
  go_ret
  exact ⟨L, gb, cap, rfl, HD.out⟩
theorem draw_sailed (A : Option Addr) (n c : Nat) (w : World) (h : CodeRow w.heap.size A n w) : Calls Try.prog 20 #[.slice A n c] w (DrawN0 w) := by
  have H := Lib.hid (draw_lines A n c w h)
  clear h
  go_enter Try.func20, Try.ntmps20
  go_wp2_with fail
  refine H.out.mono ?_
  rintro e w1 ⟨L, gb, cap, rfl, hd⟩
  have HD := Lib.hid hd
  clear hd
  go_wp2_with fail
  go_ret
  exact ⟨L, gb, cap, rfl, HD.out⟩
theorem draw_lengths (A : Option Addr) (n c : Nat) (w : World) (h : CodeRow w.heap.size A n w) : Calls Try.prog 29 #[.slice A n c] w (DrawN0 w) := by
  have H := Lib.hid (draw_lines A n c w h)
  clear h
  go_enter Try.func29, Try.ntmps29
  go_wp2_with fail
  refine H.out.mono ?_
  rintro e w1 ⟨L, gb, cap, rfl, hd⟩
  have HD := Lib.hid hd
  clear hd
  go_wp2_with fail
  go_ret
  exact ⟨L, gb, cap, rfl, HD.out⟩
set_option maxRecDepth 20000 in
set_option maxHeartbeats 3200000 in
theorem draw_over (A : Option Addr) (n c : Nat) (w : World) (h : CodeRow w.heap.size A n w) : Calls Try.prog 26 #[.slice A n c] w (DrawN2 w) := by
  have HC0 := Lib.hid (cur_new w A n c 100 h)
  clear h
  go_enter Try.func26, Try.ntmps26
  go_wp2_with fail
  refine (lines_any _ _ _ _ _ _ _ HC0.out (by omega)).mono ?_
  rintro e w1 ⟨L, gb, cap, k1, hl, hk1, hk2, hgb, hcap, rfl, hR, hC, hg⟩
  have HR1 := Lib.hid hR
  have HC1 := Lib.hid hC
  have HG1 := Lib.hid hg
  have hz : w.heap.size < (w.alloc (.cells #[.slice A n c, .int .i64 0, .int .u64 0] 100)).heap.size := by simp
  clear hR hC hg HC0
  go_wp2_with fail
  refine (lineOf_any _ _ _ _ _ _ L gb cap _ _ HC1.out (by omega) HR1.out hz hl).mono ?_
  rintro e w2 ⟨x, k2, ha1, hb1, rfl, hc, hg⟩
  have HC2 := Lib.hid hc
  have HG2 := Lib.hid (grown_trans HG1.out hg)
  have HR2 := Lib.hid (HR1.out.draw hg hz)
  clear hc hg HC1 HG1 HR1
  go_wp2_with fail
  refine (lineOf_any _ _ _ _ _ _ L gb cap _ _ HC2.out (by omega) HR2.out hz hl).mono ?_
  rintro e w3 ⟨y, k3, ha2, hb2, rfl, hc, hg⟩
  have HC3 := Lib.hid hc
  have HG3 := Lib.hid (grown_trans HG2.out hg)
  have HR3 := Lib.hid (HR2.out.draw hg hz)
  clear hc hg HC2 HG2 HR2
  have HD : Hid (DrawnN w L gb cap w3) := Lib.hid ⟨hl, hcap, HR3.out.sds, below_readerN HG3.out⟩
  clear HC3 HG3 HR3
  go_wp2_with fail
  go_ret3
  exact ⟨L, gb, cap, x, y, rfl, HD.out⟩
set_option maxRecDepth 20000 in
set_option maxHeartbeats 3200000 in
theorem draw_plan (A : Option Addr) (n c : Nat) (w : World) (h : CodeRow w.heap.size A n w) : Calls Try.prog 15 #[.slice A n c] w (DrawB1 w) := by
  have hb0 : Below w.heap.size w (w.alloc (.cells #[.int .i64 0, .int .i64 0, .int .i64 0, .int .i64 0] 25)) := (Below.refl _ _).alloc (Nat.le_refl _) _
  have HC0 := Lib.hid (cur_new (w.alloc (.cells #[.int .i64 0, .int .i64 0, .int .i64 0, .int .i64 0] 25)) A n c 100 (h.below hb0 (by simp)))
  have HZ0 : Hid (Has ((w.alloc (.cells #[.int .i64 0, .int .i64 0, .int .i64 0, .int .i64 0] 25)).alloc (.cells #[.slice A n c, .int .i64 0, .int .u64 0] 100)) w.heap.size [.int .i64 0, .int .i64 0, .int .i64 0, .int .i64 0]) := Lib.hid ((show Has (w.alloc (.cells #[.int .i64 0, .int .i64 0, .int .i64 0, .int .i64 0] 25)) w.heap.size [.int .i64 0, .int .i64 0, .int .i64 0, .int .i64 0] by simpa using Has.new w #[.int .i64 0, .int .i64 0, .int .i64 0, .int .i64 0] 25).alloc _)
  have hzz : (w.alloc (.cells #[.int .i64 0, .int .i64 0, .int .i64 0, .int .i64 0] 25)).heap.size = w.heap.size + 1 := by simp
  rw [hzz] at HC0
  clear h hb0 hzz
  have HNE : Hid (some w.heap.size ≠ some (w.heap.size + 1)) := Lib.hid fun e => by have := Option.some.inj e; omega
  have hz : w.heap.size + 1 < ((w.alloc (.cells #[.int .i64 0, .int .i64 0, .int .i64 0, .int .i64 0] 25)).alloc (.cells #[.slice A n c, .int .i64 0, .int .u64 0] 100)).heap.size := by simp
  go_enter Try.func15, Try.ntmps15
  go_wp2_with fail
  refine (box_any _ _ _ _ _ _ _ HC0.out (by omega)).mono ?_
  rintro e w1 ⟨x, y, z, u, k9, hk3, hk4, rfl, hc, hg⟩
  have HC1 := Lib.hid hc
  have HG1 := Lib.hid hg
  have HZ1 := Lib.hid (has_grown HZ0.out hg HNE.out)
  clear hc hg HC0 HZ0
  go_wp2_with fail
  refine (among_at AnyI _ _ _ _ _ _ _ 9 [1, 10, 25, 50, 60, 100, 300, 0, 301] _ HC1.out rfl (by omega) (by decide) (by decide) (fun _ _ => trivial)).mono ?_
  rintro e w2 ⟨s, _, rfl, hc, hg⟩
  have HC2 := Lib.hid hc
  have HG2 := Lib.hid (grown_trans HG1.out hg)
  have HZ2 := Lib.hid (has_grown HZ1.out hg HNE.out)
  clear hc hg HC1 HZ1 HG1
  obtain ⟨W3, rfl⟩ : ∃ W : World, W = w2 := ⟨_, rfl⟩
  have z0 := HZ2.out.at_ 0 _ rfl
  have f0 := HZ2.out.free 0
  have z1 := HZ2.out.at_ 1 _ rfl
  have f1 := HZ2.out.free 1
  have z2 := HZ2.out.at_ 2 _ rfl
  have f2 := HZ2.out.free 2
  have z3 := HZ2.out.at_ 3 _ rfl
  have f3 := HZ2.out.free 3
  have HQ := Lib.hid ((((HZ2.out.set 0 (.int .i64 x)).set 1 (.int .i64 y)).set 2 (.int .i64 z)).set 3 (.int .i64 u))
  have r0 := HQ.out.at_ 0 _ rfl
  have r1 := HQ.out.at_ 1 _ rfl
  have r2 := HQ.out.at_ 2 _ rfl
  have r3 := HQ.out.at_ 3 _ rfl
  have HD : Hid (Below w.heap.size w ((((W3.setCell ⟨w.heap.size, 0, none⟩ (.int .i64 x)).setCell ⟨w.heap.size, 1, none⟩ (.int .i64 y)).setCell ⟨w.heap.size, 2, none⟩ (.int .i64 z)).setCell ⟨w.heap.size, 3, none⟩ (.int .i64 u))) := Lib.hid (Below.setCell (Below.setCell (Below.setCell (Below.setCell (below_readerN1 HG2.out) (p := ⟨w.heap.size, 0, none⟩) (Nat.le_refl _) (.int .i64 x)) (p := ⟨w.heap.size, 1, none⟩) (Nat.le_refl _) (.int .i64 y)) (p := ⟨w.heap.size, 2, none⟩) (Nat.le_refl _) (.int .i64 z)) (p := ⟨w.heap.size, 3, none⟩) (Nat.le_refl _) (.int .i64 u))
  clear HC2 HG2
  go_wp2_with fail
  refine bodyPost_ret (v := .tuple #[.agg #[.int .i64 x, .int .i64 y, .int .i64 z, .int .i64 u], .int .i64 s]) (by simp [results, Try.results15, go_sem, r0, r1, r2, r3]) rfl ⟨x, y, z, u, s, rfl, HD.out⟩
end Go.Proofs.Ytdmnkmdlochogab
