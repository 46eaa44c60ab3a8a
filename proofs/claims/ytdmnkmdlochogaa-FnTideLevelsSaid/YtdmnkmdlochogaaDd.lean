/-
  Draws of curves, times and numbers: contracts of spec.DrawIsTideCurve, DrawTideGaps, DrawHighestLevel, DrawMinutesWith, DrawFirstMinuteWith, DrawLevelAt, DrawReducedDepth, DrawRaiseTides over this translation. Conditions: stated at each theorem.
-/
import Derived.Test.YtdmnkmdlochogaaDm
namespace Go.Proofs.Ytdmnkmdlochogaa
open Go.RowKit Go.Sort

/-- A curve that is drawn, and what it leaves. -/
def Drawn (w : World) (R : Option Addr) (m : Nat) (w' : World) : Prop := m ≤ 13 ∧ (∃ l, Spots w' w'.heap.size R m l) ∧ Below w.heap.size w w'
-- beside 50
theorem drawn_of {A : Option Addr} {n c m cap k : Nat} {w W : World} {R : Option Addr} {o : Obj} (hm : m ≤ 13) (h : TGrow w.heap.size A n c w.heap.size (w.alloc o) R m cap k 20000 W) : Drawn w R m W := by
  obtain ⟨l, hl, ho, hc, hg, hlt, _⟩ := h
  exact ⟨hm, ⟨l, (own2_of_row ho hl).spots (Nat.le_refl _)⟩, below_of ((Below.refl w.heap.size w).alloc (Nat.le_refl _) o) hg (by simp) (Nat.le_refl _)⟩
def Int64 (x : Int) : Prop := -1000000 ≤ x ∧ x ≤ 1000000
set_option maxRecDepth 20000 in
set_option maxHeartbeats 3200000 in
theorem draw_is (A : Option Addr) (n c : Nat) (w : World) (h : CodeRow w.heap.size A n w) : Calls Try.prog 120 #[.slice A n c] w fun e w' => ∃ (R : Option Addr) (m cap : Nat), e = .returned (.slice R m cap) ∧ Drawn w R m w' := by
  have HC0 := Lib.hid (cur_new w A n c 118 h)
  clear h
  go_enter Try.func120, Try.ntmps120
  go_wp2_with fail
  refine (tides_any _ _ _ _ _ _ _ HC0.out (by omega)).mono ?_
  rintro e w1 ⟨R, m, cap, k1, hm, hk1, hk2, rfl, hG⟩
  have HG1 := Lib.hid hG
  clear hG HC0
  go_wp2_with fail
  go_ret
  exact ⟨R, m, cap, rfl, drawn_of hm HG1.out⟩
set_option maxRecDepth 20000 in
set_option maxHeartbeats 3200000 in
theorem draw_high (A : Option Addr) (n c : Nat) (w : World) (h : CodeRow w.heap.size A n w) : Calls Try.prog 47 #[.slice A n c] w fun e w' => ∃ (R : Option Addr) (m cap : Nat) (a t : Int), e = .returned (.tuple #[.slice R m cap, .int .i64 a, .int .i64 t]) ∧ Int64 a ∧ Int64 t ∧ Drawn w R m w' := by
  have HC0 := Lib.hid (cur_new w A n c 118 h)
  clear h
  go_enter Try.func47, Try.ntmps47
  go_wp2_with fail
  refine (tides_any _ _ _ _ _ _ _ HC0.out (by omega)).mono ?_
  rintro e w1 ⟨R, m, cap, k1, hm, hk1, hk2, rfl, hG⟩
  have HG1 := Lib.hid hG
  clear hG HC0
  have HC1 := Lib.hid HG1.out.cur
  go_wp2_with fail
  refine (timeOf_any _ _ _ _ _ _ R m cap _ HC1.out (by omega) hm HG1.out.tms).mono ?_
  rintro e w2 ⟨a, q1, a1, a2, hq1, hr1, rfl, hc, hg⟩
  have HG2 := Lib.hid (HG1.out.draw hc hg)
  clear hc hg HC1 HG1
  have HC2 := Lib.hid HG2.out.cur
  go_wp2_with fail
  refine (among_at (Lim (-1) 100) _ _ _ _ _ _ _ 6 [0, 1, 10, 30, 100, -1] _ HC2.out rfl (by omega) (by decide) (by decide) (by intro x hx; simp only [List.mem_cons, List.not_mem_nil, or_false] at hx; unfold Lim; omega)).mono ?_
  rintro e w3 ⟨d, ⟨d1, d2⟩, rfl, hc, hg⟩
  have HG3 := Lib.hid (HG2.out.draw hc hg)
  clear hc hg HC2 HG2
  go_wp2_with fail
  go_ret3
  exact ⟨R, m, cap, a, a + d, rfl, ⟨by omega, by omega⟩, ⟨by omega, by omega⟩, drawn_of hm HG3.out⟩
set_option maxRecDepth 20000 in
set_option maxHeartbeats 3200000 in
theorem draw_minutes (A : Option Addr) (n c : Nat) (w : World) (h : CodeRow w.heap.size A n w) : Calls Try.prog 54 #[.slice A n c] w fun e w' => ∃ (R : Option Addr) (m cap : Nat) (v a t : Int), e = .returned (.tuple #[.slice R m cap, .int .i64 v, .int .i64 a, .int .i64 t]) ∧ Int64 v ∧ Int64 a ∧ Int64 t ∧ Drawn w R m w' := by
  have HC0 := Lib.hid (cur_new w A n c 118 h)
  clear h
  go_enter Try.func54, Try.ntmps54
  go_wp2_with fail
  refine (tides_any _ _ _ _ _ _ _ HC0.out (by omega)).mono ?_
  rintro e w1 ⟨R, m, cap, k1, hm, hk1, hk2, rfl, hG⟩
  have HG1 := Lib.hid hG
  clear hG HC0
  have HC1 := Lib.hid HG1.out.cur
  go_wp2_with fail
  refine (timeOf_any _ _ _ _ _ _ R m cap _ HC1.out (by omega) hm HG1.out.tms).mono ?_
  rintro e w2 ⟨a, q1, a1, a2, hq1, hr1, rfl, hc, hg⟩
  have HG2 := Lib.hid (HG1.out.draw hc hg)
  clear hc hg HC1 HG1
  have HC2 := Lib.hid HG2.out.cur
  go_wp2_with fail
  refine (among_at (Lim (-1000) 2001) _ _ _ _ _ _ _ 7 [0, 50, 150, 200, -1000, 2000, 2001] _ HC2.out rfl (by omega) (by decide) (by decide) (by intro x hx; simp only [List.mem_cons, List.not_mem_nil, or_false] at hx; unfold Lim; omega)).mono ?_
  rintro e w3 ⟨v, ⟨v1, v2⟩, rfl, hc, hg⟩
  have HG3 := Lib.hid (HG2.out.draw hc hg)
  clear hc hg HC2 HG2
  have HC3 := Lib.hid HG3.out.cur
  go_wp2_with fail
  refine (among_at (Lim (-1) 500) _ _ _ _ _ _ _ 5 [0, 20, 100, 500, -1] _ HC3.out rfl (by omega) (by decide) (by decide) (by intro x hx; simp only [List.mem_cons, List.not_mem_nil, or_false] at hx; unfold Lim; omega)).mono ?_
  rintro e w4 ⟨d, ⟨d1, d2⟩, rfl, hc, hg⟩
  have HG4 := Lib.hid (HG3.out.draw hc hg)
  clear hc hg HC3 HG3
  go_wp2_with fail
  refine bodyPost_ret (v := .tuple #[.slice R m cap, .int .i64 (v), .int .i64 (a), .int .i64 (a + d)]) (by simp [results, Try.results54, go_sem]) rfl ?_
  exact ⟨R, m, cap, v, a, a + d, rfl, ⟨by omega, by omega⟩, ⟨by omega, by omega⟩, ⟨by omega, by omega⟩, drawn_of hm HG4.out⟩
set_option maxRecDepth 20000 in
set_option maxHeartbeats 3200000 in
theorem draw_first (A : Option Addr) (n c : Nat) (w : World) (h : CodeRow w.heap.size A n w) : Calls Try.prog 50 #[.slice A n c] w fun e w' => ∃ (R : Option Addr) (m cap : Nat) (v a : Int), e = .returned (.tuple #[.slice R m cap, .int .i64 v, .int .i64 a]) ∧ Int64 v ∧ Int64 a ∧ Drawn w R m w' := by
  have HC0 := Lib.hid (cur_new w A n c 118 h)
  clear h
  go_enter Try.func50, Try.ntmps50
  go_wp2_with fail
  refine (tides_any _ _ _ _ _ _ _ HC0.out (by omega)).mono ?_
  rintro e w1 ⟨R, m, cap, k1, hm, hk1, hk2, rfl, hG⟩
  have HG1 := Lib.hid hG
  clear hG HC0
  have HC1 := Lib.hid HG1.out.cur
  go_wp2_with fail
  refine (among_at (Lim (-1001) 2000) _ _ _ _ _ _ _ 6 [0, 50, 150, 300, -1001, 2000] _ HC1.out rfl (by omega) (by decide) (by decide) (by intro x hx; simp only [List.mem_cons, List.not_mem_nil, or_false] at hx; unfold Lim; omega)).mono ?_
  rintro e w2 ⟨v, ⟨v1, v2⟩, rfl, hc, hg⟩
  have HG2 := Lib.hid (HG1.out.draw hc hg)
  clear hc hg HC1 HG1
  have HC2 := Lib.hid HG2.out.cur
  go_wp2_with fail
  refine (timeOf_any _ _ _ _ _ _ R m cap _ HC2.out (by omega) hm HG2.out.tms).mono ?_
  rintro e w3 ⟨a, q2, a1, a2, hq2, hr2, rfl, hc, hg⟩
  have HG3 := Lib.hid (HG2.out.draw hc hg)
  clear hc hg HC2 HG2
  go_wp2_with fail
  go_ret3
  exact ⟨R, m, cap, v, a, rfl, ⟨by omega, by omega⟩, ⟨by omega, by omega⟩, drawn_of hm HG3.out⟩
set_option maxRecDepth 20000 in
set_option maxHeartbeats 3200000 in
theorem draw_level (A : Option Addr) (n c : Nat) (w : World) (h : CodeRow w.heap.size A n w) : Calls Try.prog 32 #[.slice A n c] w fun e w' => ∃ (R : Option Addr) (m cap : Nat) (a : Int), e = .returned (.tuple #[.slice R m cap, .int .i64 a]) ∧ Int64 a ∧ Drawn w R m w' := by
  have HC0 := Lib.hid (cur_new w A n c 118 h)
  clear h
  go_enter Try.func32, Try.ntmps32
  go_wp2_with fail
  refine (tides_any _ _ _ _ _ _ _ HC0.out (by omega)).mono ?_
  rintro e w1 ⟨R, m, cap, k1, hm, hk1, hk2, rfl, hG⟩
  have HG1 := Lib.hid hG
  clear hG HC0
  have HC1 := Lib.hid HG1.out.cur
  go_wp2_with fail
  refine (timeOf_any _ _ _ _ _ _ R m cap _ HC1.out (by omega) hm HG1.out.tms).mono ?_
  rintro e w2 ⟨a, q1, a1, a2, hq1, hr1, rfl, hc, hg⟩
  have HG2 := Lib.hid (HG1.out.draw hc hg)
  clear hc hg HC1 HG1
  go_wp2_with fail
  go_ret2
  exact ⟨R, m, cap, a, rfl, ⟨by omega, by omega⟩, drawn_of hm HG2.out⟩
set_option maxRecDepth 20000 in
set_option maxHeartbeats 3200000 in
theorem draw_depth (A : Option Addr) (n c : Nat) (w : World) (h : CodeRow w.heap.size A n w) : Calls Try.prog 37 #[.slice A n c] w fun e w' => ∃ (R : Option Addr) (m cap : Nat) (v a : Int), e = .returned (.tuple #[.slice R m cap, .int .i64 v, .int .i64 a]) ∧ Int64 v ∧ Int64 a ∧ Drawn w R m w' := by
  have HC0 := Lib.hid (cur_new w A n c 118 h)
  clear h
  go_enter Try.func37, Try.ntmps37
  go_wp2_with fail
  refine (tides_any _ _ _ _ _ _ _ HC0.out (by omega)).mono ?_
  rintro e w1 ⟨R, m, cap, k1, hm, hk1, hk2, rfl, hG⟩
  have HG1 := Lib.hid hG
  clear hG HC0
  have HC1 := Lib.hid HG1.out.cur
  go_wp2_with fail
  refine (among_at (Lim (-1) 30001) _ _ _ _ _ _ _ 7 [0, 55, 900, 2000, 30000, 30001, -1] _ HC1.out rfl (by omega) (by decide) (by decide) (by intro x hx; simp only [List.mem_cons, List.not_mem_nil, or_false] at hx; unfold Lim; omega)).mono ?_
  rintro e w2 ⟨v, ⟨v1, v2⟩, rfl, hc, hg⟩
  have HG2 := Lib.hid (HG1.out.draw hc hg)
  clear hc hg HC1 HG1
  have HC2 := Lib.hid HG2.out.cur
  go_wp2_with fail
  refine (timeOf_any _ _ _ _ _ _ R m cap _ HC2.out (by omega) hm HG2.out.tms).mono ?_
  rintro e w3 ⟨a, q2, a1, a2, hq2, hr2, rfl, hc, hg⟩
  have HG3 := Lib.hid (HG2.out.draw hc hg)
  clear hc hg HC2 HG2
  go_wp2_with fail
  go_ret3
  exact ⟨R, m, cap, v, a, rfl, ⟨by omega, by omega⟩, ⟨by omega, by omega⟩, drawn_of hm HG3.out⟩
set_option maxRecDepth 20000 in
set_option maxHeartbeats 3200000 in
theorem draw_raise (A : Option Addr) (n c : Nat) (w : World) (h : CodeRow w.heap.size A n w) : Calls Try.prog 41 #[.slice A n c] w fun e w' => ∃ (R : Option Addr) (m cap : Nat) (v : Int), e = .returned (.tuple #[.slice R m cap, .int .i64 v]) ∧ Int64 v ∧ Drawn w R m w' := by
  have HC0 := Lib.hid (cur_new w A n c 118 h)
  clear h
  go_enter Try.func41, Try.ntmps41
  go_wp2_with fail
  refine (tides_any _ _ _ _ _ _ _ HC0.out (by omega)).mono ?_
  rintro e w1 ⟨R, m, cap, k1, hm, hk1, hk2, rfl, hG⟩
  have HG1 := Lib.hid hG
  clear hG HC0
  have HC1 := Lib.hid HG1.out.cur
  go_wp2_with fail
  refine (among_at (Lim (-971) 3001) _ _ _ _ _ _ _ 7 [0, 10, -200, 1690, -971, 3000, 3001] _ HC1.out rfl (by omega) (by decide) (by decide) (by intro x hx; simp only [List.mem_cons, List.not_mem_nil, or_false] at hx; unfold Lim; omega)).mono ?_
  rintro e w2 ⟨v, ⟨v1, v2⟩, rfl, hc, hg⟩
  have HG2 := Lib.hid (HG1.out.draw hc hg)
  clear hc hg HC1 HG1
  go_wp2_with fail
  go_ret2
  exact ⟨R, m, cap, v, rfl, ⟨by omega, by omega⟩, drawn_of hm HG2.out⟩
theorem draw_gaps (A : Option Addr) (n c : Nat) (w : World) (h : CodeRow w.heap.size A n w) : Calls Try.prog 56 #[.slice A n c] w fun e w' => ∃ (R : Option Addr) (m cap : Nat), e = .returned (.slice R m cap) ∧ Drawn w R m w' := by
  have H := Lib.hid (draw_is A n c w h)
  clear h
  go_enter Try.func56, Try.ntmps56
  go_wp2_with fail
  refine H.out.mono ?_
  rintro e w1 ⟨R, m, cap, rfl, hD⟩
  have HD := Lib.hid hD
  clear hD
  go_wp2_with fail
  go_ret
  exact ⟨R, m, cap, rfl, HD.out⟩
end Go.Proofs.Ytdmnkmdlochogaa
