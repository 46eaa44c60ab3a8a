/-
  Draws of the laws of casts: contracts of spec.DrawIsCast, DrawThinCast, DrawSpeedAt, DrawTravelTo, DrawMeanSpeed, DrawDepthFor, DrawSameLayers, DrawCastAt, DrawNearestCast over this translation. Conditions: stated at each theorem.
-/
import Derived.Test.YtnpcnafjjgkfgaaRr
namespace Go.Proofs.Ytnpcnafjjgkfgaa
open Go.RowKit Go.Sort Go.Deep
set_option linter.unusedVariables false

theorem cur_low' {B B' : Nat} {A : Option Addr} {n c g k : Nat} {W : World} (h : Cur B A n c g k W) (hr : CodeRow B' A n W) (hB : B' ≤ B) : Cur B' A n c g k W :=
  { h with row := hr, old := Nat.le_trans hB h.old }
/-- A cast that was drawn. -/
def DrawK (w : World) (w' : World) (R : Option Addr) (m : Nat) (l : List (Int × Int)) : Prop :=
  l.length = m ∧ m ≤ 9 ∧ OwnL w' w.heap.size w'.heap.size R m l ∧ Below w.heap.size w w'
def DrawKPost (w : World) (e : Ending) (w' : World) : Prop := ∃ (id tm : Int) (sp : Int × Int) (R : Option Addr) (m c : Nat) (l : List (Int × Int)), e = .returned (.agg #[.int .i64 id, .int .i64 tm, .int .i64 sp.1, .int .i64 sp.2, .slice R m c]) ∧ DrawK w w' R m l
def DrawKIPost (w : World) (e : Ending) (w' : World) : Prop := ∃ (id tm : Int) (sp : Int × Int) (R : Option Addr) (m c : Nat) (l : List (Int × Int)) (x : Int), e = .returned (.tuple #[.agg #[.int .i64 id, .int .i64 tm, .int .i64 sp.1, .int .i64 sp.2, .slice R m c], .int .i64 x]) ∧ DrawK w w' R m l
/-- The store of a drawn cast in the block that it is handed back in. -/
theorem drawn_ret {w W : World} {lo : Nat} {R : Option Addr} {m : Nat} {l : List (Int × Int)} {z0 z1 z2 z3 z4 : Value} (hO : OwnL W lo W.heap.size R m l) (hlo : w.heap.size < lo) (hZ : Has W w.heap.size [z0, z1, z2, z3, z4]) (hB : Below w.heap.size w W) (a b c d e : Value) :
    Has (setL W w.heap.size 0 [a, b, c, d, e]) w.heap.size [a, b, c, d, e] ∧ OwnL (setL W w.heap.size 0 [a, b, c, d, e]) w.heap.size (setL W w.heap.size 0 [a, b, c, d, e]).heap.size R m l ∧ Below w.heap.size w (setL W w.heap.size 0 [a, b, c, d, e]) := by
  have hg := setL_grown [a, b, c, d, e] W w.heap.size 0
  exact ⟨layK5 hZ a b c d e, (hO.keep hg (Nat.le_refl _) (fun g hR e => by have h1 := (hO.2 g hR).1; have h2 := Option.some.inj e; omega)).wide (by omega) hg.size, below_of hB hg (Nat.le_of_lt hZ.1) (Nat.le_refl _)⟩
set_option maxRecDepth 100000 in
set_option maxHeartbeats 12800000 in
theorem draw_is (A : Option Addr) (n c : Nat) (w : World) (h : CodeRow w.heap.size A n w) : Calls Try.prog 65 #[.slice A n c] w (DrawKPost w) := by
  obtain ⟨W1, hW1⟩ : ∃ W, W = (w.alloc (.cells #[.int .i64 0, .int .i64 0, .int .i64 0, .int .i64 0, .slice none 0 0] 28)).alloc (.cells #[.slice A n c, .int .i64 0, .int .u64 0] 73) := ⟨_, rfl⟩
  have HS1 : Hid (W1.heap.size = w.heap.size + 2) := by rw [hW1]; exact Lib.hid (by simp)
  have HB1 : Hid (Below w.heap.size w W1) := by rw [hW1]; exact Lib.hid (((Below.refl w.heap.size w).alloc (by simp <;> omega) _).alloc (by simp <;> omega) _)
  have HZ1a : Hid (Has W1 (w.heap.size) [.int .i64 0, .int .i64 0, .int .i64 0, .int .i64 0, .slice none 0 0]) := by rw [hW1]; exact Lib.hid (((by simpa using Has.new w #[.int .i64 0, .int .i64 0, .int .i64 0, .int .i64 0, .slice none 0 0] 28 : Has (w.alloc (.cells #[.int .i64 0, .int .i64 0, .int .i64 0, .int .i64 0, .slice none 0 0] 28)) w.heap.size [.int .i64 0, .int .i64 0, .int .i64 0, .int .i64 0, .slice none 0 0]).alloc _))
  have HC1 : Hid (Cur w.heap.size A n c (w.heap.size + 1) 0 W1) := by
    have h1 := cur_new (w.alloc (.cells #[.int .i64 0, .int .i64 0, .int .i64 0, .int .i64 0, .slice none 0 0] 28)) A n c 73 (h.below (B' := (w.alloc (.cells #[.int .i64 0, .int .i64 0, .int .i64 0, .int .i64 0, .slice none 0 0] 28)).heap.size) ((Below.refl w.heap.size w).alloc (by simp <;> omega) _) (by simp <;> omega))
    rw [← hW1] at h1
    have hsz : (w.alloc (.cells #[.int .i64 0, .int .i64 0, .int .i64 0, .int .i64 0, .slice none 0 0] 28)).heap.size = w.heap.size + 1 := by simp
    rw [hsz] at h1
    exact Lib.hid (cur_low' h1 (h.below HB1.out (Nat.le_refl _)) (by omega))
  have HE1 := Lib.hid hW1
  clear h hW1
  go_enter Try.func65, Try.ntmps65
  go_upto_region 2 with fail
  rw [← HE1.out]
  go_wp2_with fail
  refine (among_at AnyI _ _ _ _ _ _ _ 3 [1, 42, 99] _ HC1.out rfl (by omega) (by decide) (by decide) (fun _ _ => trivial)).mono ?_
  rintro e v2 ⟨x0, _, rfl, hc, hg⟩
  have HC2 := Lib.hid hc
  have HB2 := Lib.hid (below_of HB1.out hg (by have := HB1.out.size; omega) (by omega))
  have HZ2a := Lib.hid (has_grown HZ1a.out hg (fun e => by have := Option.some.inj e; omega))
  clear hc hg HC1 HB1 HZ1a
  go_wp2_with fail
  refine (among_at AnyI _ _ _ _ _ _ _ 3 [0, 500, 10000] _ HC2.out rfl (by omega) (by decide) (by decide) (fun _ _ => trivial)).mono ?_
  rintro e v3 ⟨x1, _, rfl, hc, hg⟩
  have HC3 := Lib.hid hc
  have HB3 := Lib.hid (below_of HB2.out hg (by have := HB2.out.size; omega) (by omega))
  have HZ3a := Lib.hid (has_grown HZ2a.out hg (fun e => by have := Option.some.inj e; omega))
  clear hc hg HC2 HB2 HZ2a
  go_wp2_with fail
  have hv3 : w.heap.size + 1 < v3.heap.size := HC3.out.lt
  refine (cast_any _ _ _ _ _ _ _ _ _ HC3.out (by omega)).mono ?_
  rintro e w4 ⟨id, tm, sp, R, m, c', l, k4, hl, hm9, hk4, rfl, hO, hc, hg⟩
  have HB4 := Lib.hid (below_of HB3.out hg (by have := HB3.out.size; omega) (by omega))
  have HZ4 := Lib.hid (has_grown HZ3a.out hg (fun e => by have := Option.some.inj e; omega))
  have HD := Lib.hid (drawn_ret (lo := v3.heap.size) hO (by omega) HZ4.out HB4.out (.int .i64 id) (.int .i64 tm) (.int .i64 sp.1) (.int .i64 sp.2) (.slice R m c'))
  clear hc hg hO HC3 HB3 HZ3a
  have z0 := HZ4.out.at_ 0 _ rfl
  have z1 := HZ4.out.at_ 1 _ rfl
  have z2 := HZ4.out.at_ 2 _ rfl
  have z3 := HZ4.out.at_ 3 _ rfl
  have z4 := HZ4.out.at_ 4 _ rfl
  have f0 := HZ4.out.free 0
  have f1 := HZ4.out.free 1
  have f2 := HZ4.out.free 2
  have f3 := HZ4.out.free 3
  have f4 := HZ4.out.free 4
  have r0 := HD.out.1.at_ 0 _ rfl
  have r1 := HD.out.1.at_ 1 _ rfl
  have r2 := HD.out.1.at_ 2 _ rfl
  have r3 := HD.out.1.at_ 3 _ rfl
  have r4 := HD.out.1.at_ 4 _ rfl
  simp only [setL] at r0 r1 r2 r3 r4
  go_wp2_with fail
  refine bodyPost_ret (v := .agg #[.int .i64 id, .int .i64 tm, .int .i64 sp.1, .int .i64 sp.2, .slice R m c']) (by simp [results, Try.results65, go_sem, r0, r1, r2, r3, r4]) rfl ⟨_, _, _, _, _, _, _, rfl, hl, hm9, HD.out.2.1, HD.out.2.2⟩
def planS7 : List (Option Nat × Kd) := [(some 11, .agg), (some 12, .ptr), (some 13, .any), (none, .agg), (some 3, .any)]
def fixS7 (g bb br : Nat) : List (Nat × Value) := [(4, .pointer (some ⟨g, 0, none⟩)), (5, .pointer (some ⟨bb, 0, none⟩)), (2, .pointer (some ⟨br, 0, none⟩))]
theorem planS7_ok (g bb br : Nat) : planB 14 ((fixS7 g bb br).map (·.1)) planS7 = true := by kernel_rfl
set_option maxRecDepth 100000 in
set_option maxHeartbeats 12800000 in
theorem draw_speed (A : Option Addr) (n c : Nat) (w : World) (h : CodeRow w.heap.size A n w) : Calls Try.prog 26 #[.slice A n c] w (DrawKIPost w) := by
  obtain ⟨W1, hW1⟩ : ∃ W, W = (w.alloc (.cells #[.int .i64 0, .int .i64 0, .int .i64 0, .int .i64 0, .slice none 0 0] 28)).alloc (.cells #[.slice A n c, .int .i64 0, .int .u64 0] 73) := ⟨_, rfl⟩
  have HS1 : Hid (W1.heap.size = w.heap.size + 2) := by rw [hW1]; exact Lib.hid (by simp)
  have HB1 : Hid (Below w.heap.size w W1) := by rw [hW1]; exact Lib.hid (((Below.refl w.heap.size w).alloc (by simp <;> omega) _).alloc (by simp <;> omega) _)
  have HZ1a : Hid (Has W1 (w.heap.size) [.int .i64 0, .int .i64 0, .int .i64 0, .int .i64 0, .slice none 0 0]) := by rw [hW1]; exact Lib.hid (((by simpa using Has.new w #[.int .i64 0, .int .i64 0, .int .i64 0, .int .i64 0, .slice none 0 0] 28 : Has (w.alloc (.cells #[.int .i64 0, .int .i64 0, .int .i64 0, .int .i64 0, .slice none 0 0] 28)) w.heap.size [.int .i64 0, .int .i64 0, .int .i64 0, .int .i64 0, .slice none 0 0]).alloc _))
  have HC1 : Hid (Cur w.heap.size A n c (w.heap.size + 1) 0 W1) := by
    have h1 := cur_new (w.alloc (.cells #[.int .i64 0, .int .i64 0, .int .i64 0, .int .i64 0, .slice none 0 0] 28)) A n c 73 (h.below (B' := (w.alloc (.cells #[.int .i64 0, .int .i64 0, .int .i64 0, .int .i64 0, .slice none 0 0] 28)).heap.size) ((Below.refl w.heap.size w).alloc (by simp <;> omega) _) (by simp <;> omega))
    rw [← hW1] at h1
    have hsz : (w.alloc (.cells #[.int .i64 0, .int .i64 0, .int .i64 0, .int .i64 0, .slice none 0 0] 28)).heap.size = w.heap.size + 1 := by simp
    rw [hsz] at h1
    exact Lib.hid (cur_low' h1 (h.below HB1.out (Nat.le_refl _)) (by omega))
  have HE1 := Lib.hid hW1
  clear h hW1
  go_enter Try.func26, Try.ntmps26
  go_upto_region 2 with fail
  rw [← HE1.out]
  go_wp2_with fail
  refine (cast_any _ _ _ _ _ _ _ _ _ HC1.out (by omega)).mono ?_
  rintro e w2 ⟨id, tm, sp, R, m, c', l, k2, hl, hm9, hk2, rfl, hO, hc, hg⟩
  rw [HS1.out] at hO
  have hRb : ∀ g', R = some ⟨g', 0, none⟩ → g' < w2.heap.size := fun g' hR => by
    obtain ⟨_, cur, hc2⟩ := hO.2 g' hR
    exact (Array.getElem?_eq_some_iff.1 hc2).1
  have HR2 := Lib.hid hO
  have HC2 := Lib.hid hc
  have HB2 := Lib.hid (below_of HB1.out hg HB1.out.size (by omega))
  have HZ2 := Lib.hid (has_grown HZ1a.out hg (fun e => by have := Option.some.inj e; omega))
  have hz2 := HZ2.out.1
  have hc2 := HC2.out.lt
  have HLL := Lib.hid (And.intro hl hm9)
  clear hc hg HC1 HB1 HZ1a HE1 hO hl HS1
  obtain ⟨W3, hW3⟩ : ∃ W, W = w2.alloc (.cells #[.int .i64 id, .int .i64 tm, .int .i64 sp.1, .int .i64 sp.2, .slice R m c'] 28) := ⟨_, rfl⟩
  have HX3 : Hid (Has W3 w2.heap.size [.int .i64 id, .int .i64 tm, .int .i64 sp.1, .int .i64 sp.2, .slice R m c']) := by rw [hW3]; exact Lib.hid (by simpa using Has.new w2 #[.int .i64 id, .int .i64 tm, .int .i64 sp.1, .int .i64 sp.2, .slice R m c'] 28)
  have HC3 : Hid (Cur w.heap.size A n c (w.heap.size + 1) k2 W3) := by rw [hW3]; exact Lib.hid (HC2.out.alloc _)
  have HB3 : Hid (Below w.heap.size w W3) := by rw [hW3]; exact Lib.hid (HB2.out.alloc HB2.out.size _)
  have HZ3 : Hid (Has W3 w.heap.size [.int .i64 0, .int .i64 0, .int .i64 0, .int .i64 0, .slice none 0 0]) := by rw [hW3]; exact Lib.hid (HZ2.out.alloc _)
  have HR3 : Hid (OwnL W3 (w.heap.size + 2) w2.heap.size R m l) := by rw [hW3]; exact Lib.hid (HR2.out.keep (World.grownBy_alloc _ _ none) (Nat.le_refl _) (fun _ _ e => by cases e))
  have HE3 := Lib.hid hW3
  clear hW3 HC2 HB2 HZ2 HR2
  go_upto_region 3 with fail
  rw [← HE3.out]
  have hbb : w2.heap.size ≠ w.heap.size + 1 := by omega
  have hbr : w.heap.size ≠ w.heap.size + 1 := by omega
  have hP := planS7_ok (w.heap.size + 1) w2.heap.size w.heap.size
  refine region_inv (by kernel_rfl) (by kernel_rfl) (Sv w.heap.size A n c (w.heap.size + 1) id sp tm R m c' w 2000 14 (fixS7 (w.heap.size + 1) w2.heap.size w.heap.size) planS7 w2.heap.size w.heap.size (fun V => OwnL V (w.heap.size + 2) w2.heap.size R m l ∧ w2.heap.size ≤ V.heap.size) [w.heap.size] ⟨w2.heap.size, w2.heap.size, id, tm, sp, R, m, c'⟩) ?_ ?_ ?_
  · intro fuel listed a W hS i o ho hf hd
    have hi : i < 5 := (Array.getElem?_eq_some_iff.1 ho).1
    obtain rfl | rfl | rfl | rfl | rfl : i = 0 ∨ i = 1 ∨ i = 2 ∨ i = 3 ∨ i = 4 := by omega
    · exact hS.load hP hbb hbr ho (d := 11) (t := 5) (by kernel_rfl) (by simp [fixS7]) rfl
    · exact hS.move hP hbb hbr ho (d := 12) (t := 4) (by kernel_rfl) (by simp [fixS7]) rfl
    · exact hS.draws hP hbb hbr ho Try.func75 (by kernel_rfl) (by kernel_rfl) (fun k W hk hc => depth7_any _ _ _ _ _ k W hc (by omega)) (ts := #[70]) (d := 13) (t := 12) (by kernel_rfl) (j := 1) rfl (dep_of (j := 1) (by kernel_rfl) ho hd) rfl
    · exact hS.store (by omega) hbr (Nat.le_refl _) (Nat.le_refl _) ho (t := 2) (s := 11) (by kernel_rfl) (by simp [fixS7]) (j := 0) rfl (dep_of (j := 0) (by kernel_rfl) ho hd) rfl
    · exact hS.assign hP hbb hbr ho (d := 3) (t := 13) (by kernel_rfl) (j := 2) rfl (dep_of (j := 2) (by kernel_rfl) ho hd) rfl
  · intro fuel listed a W hS hall
    have hRW := hS.kept.1.1
    obtain ⟨x, ex⟩ := hS.slots 4 3 .any rfl (hall 4 (by decide))
    have ex' : a.tmps[3]?.getD undef = .int .i64 x := by simpa using ex
    have ep := hS.fix (2, .pointer (some ⟨w.heap.size, 0, none⟩)) (by simp [fixS7])
    have ep' : a.tmps[2]?.getD undef = .pointer (some ⟨w.heap.size, 0, none⟩) := by simpa using ep
    obtain ⟨cs, hcs, h7, hcv⟩ := hS.res
    obtain rfl := hcv 3 rfl (hall 3 (by decide))
    have r0 := hcs.at_ 0 _ rfl
    have r1 := hcs.at_ 1 _ rfl
    have r2 := hcs.at_ 2 _ rfl
    have r3 := hcs.at_ 3 _ rfl
    have r4 := hcs.at_ 4 _ rfl
    have HBw := Lib.hid (below_of (Below.refl w.heap.size w) hS.grown (Nat.le_refl _) (by omega))
    have HRW := Lib.hid (hRW.wide (show w.heap.size ≤ w.heap.size + 2 by omega) (Nat.le_of_lt hS.box.1))
    have hdf := hS.defers
    clear hS hall hcv h7 ep hRW hP
    go_wp2_with fail
    refine bodyPost_ret (v := .tuple #[.agg #[.int .i64 id, .int .i64 tm, .int .i64 sp.1, .int .i64 sp.2, .slice R m c'], .int .i64 x]) (by simp [results, Try.results26, go_sem, ep', ex', r0, r1, r2, r3, r4]) hdf ⟨id, tm, sp, R, m, c', l, x, rfl, HLL.out.1, HLL.out.2, HRW.out, HBw.out⟩
  · refine ⟨by simp, rfl, ?_, fun i d K hi hl => (rep_no' hl).elim, ⟨k2, by show k2 + 3 * 5 ≤ 2000; omega, HC3.out.drew_'⟩, ?_, HX3.out.drew, ⟨⟨HR3.out, Nat.le_of_lt HX3.out.1⟩, ?_⟩, ⟨by simp, ?_⟩, ⟨_, HZ3.out.drew, rfl, fun i _ hl => (rep_no' hl).elim⟩, HX3.out.drew, ⟨_, HX3.out.drew, rfl, fun i _ hl => (rep_no' hl).elim⟩, ⟨hbb, hbb, (by show w2.heap.size ≠ w.heap.size; omega), (by show w2.heap.size ≠ w.heap.size; omega)⟩⟩
    · intro p hp
      simp only [fixS7, List.mem_cons, List.not_mem_nil, or_false] at hp
      rcases hp with rfl | rfl | rfl <;> simp
    · have hB := HB3.out
      exact ⟨hB.os, hB.tape, hB.output, hB.size, fun i hi _ => hB.block i hi⟩
    · intro V V' q hg hq h
      exact ⟨h.1.keep hg h.2 (fun g' hR e => by have h1 := (h.1.2 g' hR).1; have h2 := Option.some.inj e; have h3 := hRb g' hR; rcases hq with rfl | rfl | hq <;> (try simp only at hq) <;> omega), Nat.le_trans h.2 hg.size⟩
    · intro q hq
      simp only [List.mem_cons, List.not_mem_nil, or_false] at hq
      have h3 := HZ3.out.1
      rw [hq]; exact h3
def planD7 : List (Option Nat × Kd) := [(some 11, .agg), (some 12, .ptr), (some 13, .row [0, 6, 7, 1000, 10000, 140000, 1000000, -1, 1000001]), (some 14, .ptr), (some 15, .num 0 23), (some 16, .num 0 2), (some 17, .num 7 9), (some 18, .pre [0, 6, 7, 1000, 10000, 140000, 1000000, -1, 1000001]), (some 19, .any), (none, .agg), (some 3, .any)]
def fixD7 (g bb br : Nat) : List (Nat × Value) := [(4, .pointer (some ⟨g, 0, none⟩)), (5, .pointer (some ⟨bb, 0, none⟩)), (2, .pointer (some ⟨br, 0, none⟩))]
theorem planD7_ok (g bb br : Nat) : planB 20 ((fixD7 g bb br).map (·.1)) planD7 = true := by kernel_rfl
set_option maxRecDepth 100000 in
set_option maxHeartbeats 12800000 in
theorem draw_depth (A : Option Addr) (n c : Nat) (w : World) (h : CodeRow w.heap.size A n w) : Calls Try.prog 16 #[.slice A n c] w (DrawKIPost w) := by
  obtain ⟨W1, hW1⟩ : ∃ W, W = (w.alloc (.cells #[.int .i64 0, .int .i64 0, .int .i64 0, .int .i64 0, .slice none 0 0] 28)).alloc (.cells #[.slice A n c, .int .i64 0, .int .u64 0] 73) := ⟨_, rfl⟩
  have HS1 : Hid (W1.heap.size = w.heap.size + 2) := by rw [hW1]; exact Lib.hid (by simp)
  have HB1 : Hid (Below w.heap.size w W1) := by rw [hW1]; exact Lib.hid (((Below.refl w.heap.size w).alloc (by simp <;> omega) _).alloc (by simp <;> omega) _)
  have HZ1a : Hid (Has W1 (w.heap.size) [.int .i64 0, .int .i64 0, .int .i64 0, .int .i64 0, .slice none 0 0]) := by rw [hW1]; exact Lib.hid (((by simpa using Has.new w #[.int .i64 0, .int .i64 0, .int .i64 0, .int .i64 0, .slice none 0 0] 28 : Has (w.alloc (.cells #[.int .i64 0, .int .i64 0, .int .i64 0, .int .i64 0, .slice none 0 0] 28)) w.heap.size [.int .i64 0, .int .i64 0, .int .i64 0, .int .i64 0, .slice none 0 0]).alloc _))
  have HC1 : Hid (Cur w.heap.size A n c (w.heap.size + 1) 0 W1) := by
    have h1 := cur_new (w.alloc (.cells #[.int .i64 0, .int .i64 0, .int .i64 0, .int .i64 0, .slice none 0 0] 28)) A n c 73 (h.below (B' := (w.alloc (.cells #[.int .i64 0, .int .i64 0, .int .i64 0, .int .i64 0, .slice none 0 0] 28)).heap.size) ((Below.refl w.heap.size w).alloc (by simp <;> omega) _) (by simp <;> omega))
    rw [← hW1] at h1
    have hsz : (w.alloc (.cells #[.int .i64 0, .int .i64 0, .int .i64 0, .int .i64 0, .slice none 0 0] 28)).heap.size = w.heap.size + 1 := by simp
    rw [hsz] at h1
    exact Lib.hid (cur_low' h1 (h.below HB1.out (Nat.le_refl _)) (by omega))
  have HE1 := Lib.hid hW1
  clear h hW1
  go_enter Try.func16, Try.ntmps16
  go_upto_region 2 with fail
  rw [← HE1.out]
  go_wp2_with fail
  refine (cast_any _ _ _ _ _ _ _ _ _ HC1.out (by omega)).mono ?_
  rintro e w2 ⟨id, tm, sp, R, m, c', l, k2, hl, hm9, hk2, rfl, hO, hc, hg⟩
  rw [HS1.out] at hO
  have hRb : ∀ g', R = some ⟨g', 0, none⟩ → g' < w2.heap.size := fun g' hR => by
    obtain ⟨_, cur, hc2⟩ := hO.2 g' hR
    exact (Array.getElem?_eq_some_iff.1 hc2).1
  have HR2 := Lib.hid hO
  have HC2 := Lib.hid hc
  have HB2 := Lib.hid (below_of HB1.out hg HB1.out.size (by omega))
  have HZ2 := Lib.hid (has_grown HZ1a.out hg (fun e => by have := Option.some.inj e; omega))
  have hz2 := HZ2.out.1
  have hc2 := HC2.out.lt
  have HLL := Lib.hid (And.intro hl hm9)
  clear hc hg HC1 HB1 HZ1a HE1 hO hl HS1
  obtain ⟨W3, hW3⟩ : ∃ W, W = w2.alloc (.cells #[.int .i64 id, .int .i64 tm, .int .i64 sp.1, .int .i64 sp.2, .slice R m c'] 28) := ⟨_, rfl⟩
  have HX3 : Hid (Has W3 w2.heap.size [.int .i64 id, .int .i64 tm, .int .i64 sp.1, .int .i64 sp.2, .slice R m c']) := by rw [hW3]; exact Lib.hid (by simpa using Has.new w2 #[.int .i64 id, .int .i64 tm, .int .i64 sp.1, .int .i64 sp.2, .slice R m c'] 28)
  have HC3 : Hid (Cur w.heap.size A n c (w.heap.size + 1) k2 W3) := by rw [hW3]; exact Lib.hid (HC2.out.alloc _)
  have HB3 : Hid (Below w.heap.size w W3) := by rw [hW3]; exact Lib.hid (HB2.out.alloc HB2.out.size _)
  have HZ3 : Hid (Has W3 w.heap.size [.int .i64 0, .int .i64 0, .int .i64 0, .int .i64 0, .slice none 0 0]) := by rw [hW3]; exact Lib.hid (HZ2.out.alloc _)
  have HR3 : Hid (OwnL W3 (w.heap.size + 2) w2.heap.size R m l) := by rw [hW3]; exact Lib.hid (HR2.out.keep (World.grownBy_alloc _ _ none) (Nat.le_refl _) (fun _ _ e => by cases e))
  have HE3 := Lib.hid hW3
  clear hW3 HC2 HB2 HZ2 HR2
  go_upto_region 3 with fail
  rw [← HE3.out]
  have hbb : w2.heap.size ≠ w.heap.size + 1 := by omega
  have hbr : w.heap.size ≠ w.heap.size + 1 := by omega
  have hP := planD7_ok (w.heap.size + 1) w2.heap.size w.heap.size
  refine region_inv (by kernel_rfl) (by kernel_rfl) (Sv w.heap.size A n c (w.heap.size + 1) id sp tm R m c' w 2000 20 (fixD7 (w.heap.size + 1) w2.heap.size w.heap.size) planD7 w2.heap.size w.heap.size (fun V => OwnL V (w.heap.size + 2) w2.heap.size R m l ∧ w2.heap.size ≤ V.heap.size) [w.heap.size] ⟨w2.heap.size, w2.heap.size, id, tm, sp, R, m, c'⟩) ?_ ?_ ?_
  · intro fuel listed a W hS i o ho hf hd
    have hi : i < 11 := (Array.getElem?_eq_some_iff.1 ho).1
    obtain rfl | rfl | rfl | rfl | rfl | rfl | rfl | rfl | rfl | rfl | rfl : i = 0 ∨ i = 1 ∨ i = 2 ∨ i = 3 ∨ i = 4 ∨ i = 5 ∨ i = 6 ∨ i = 7 ∨ i = 8 ∨ i = 9 ∨ i = 10 := by omega
    · exact hS.load hP hbb hbr ho (d := 11) (t := 5) (by kernel_rfl) (by simp [fixD7]) rfl
    · exact hS.move hP hbb hbr ho (d := 12) (t := 4) (by kernel_rfl) (by simp [fixD7]) rfl
    · exact hS.build hP hbb hbr ho (d := 13) (xs := [0, 6, 7, 1000, 10000, 140000, 1000000, -1, 1000001]) (p := .buildSlice 76 9 #[(0, .const (.int .i64 0)), (1, .const (.int .i64 6)), (2, .const (.int .i64 7)), (3, .const (.int .i64 1000)), (4, .const (.int .i64 10000)), (5, .const (.int .i64 140000)), (6, .const (.int .i64 1000000)), (7, .const (Value.int IntKind.i64 (-1))), (8, .const (.int .i64 1000001))]) (by kernel_rfl) (fun o a W ho => by simp [execOp, ho, go_sem]) rfl
    · exact hS.move hP hbb hbr ho (d := 14) (t := 4) (by kernel_rfl) (by simp [fixD7]) rfl
    · exact hS.pick hP hbb hbr ho (by omega) (d := 15) (t := 14) (ts := #[70, 3]) (by kernel_rfl) (j := 3) rfl (dep_of (j := 3) (by kernel_rfl) ho hd) rfl
    · exact hS.quo hP hbb hbr ho (d := 16) (t := 15) (by kernel_rfl) (j := 4) rfl (dep_of (j := 4) (by kernel_rfl) ho hd) rfl
    · exact hS.add hP hbb hbr ho (m := 7) (by omega) (d := 17) (t := 16) (by kernel_rfl) (j := 5) rfl (dep_of (j := 5) (by kernel_rfl) ho hd) rfl
    · exact hS.slice hP hbb hbr ho (m := 7) (xs := [0, 6, 7, 1000, 10000, 140000, 1000000, -1, 1000001]) (by omega) (by decide) (by decide) (d := 18) (t := 13) (s := 17) (by kernel_rfl) (j := 2) rfl (dep_of (j := 2) (by kernel_rfl) ho hd) (j' := 6) rfl (dep_of (j := 6) (by kernel_rfl) ho hd) rfl
    · exact hS.among hP hbb hbr ho (by omega) (xs := [0, 6, 7, 1000, 10000, 140000, 1000000, -1, 1000001]) (by decide) (d := 19) (t := 12) (s := 18) (ts := #[70, 76]) (by kernel_rfl) (j := 1) rfl (dep_of (j := 1) (by kernel_rfl) ho hd) (j' := 7) rfl (dep_of (j := 7) (by kernel_rfl) ho hd) rfl
    · exact hS.store (by omega) hbr (Nat.le_refl _) (Nat.le_refl _) ho (t := 2) (s := 11) (by kernel_rfl) (by simp [fixD7]) (j := 0) rfl (dep_of (j := 0) (by kernel_rfl) ho hd) rfl
    · exact hS.assign hP hbb hbr ho (d := 3) (t := 19) (by kernel_rfl) (j := 8) rfl (dep_of (j := 8) (by kernel_rfl) ho hd) rfl
  · intro fuel listed a W hS hall
    have hRW := hS.kept.1.1
    obtain ⟨x, ex⟩ := hS.slots 10 3 .any rfl (hall 10 (by decide))
    have ex' : a.tmps[3]?.getD undef = .int .i64 x := by simpa using ex
    have ep := hS.fix (2, .pointer (some ⟨w.heap.size, 0, none⟩)) (by simp [fixD7])
    have ep' : a.tmps[2]?.getD undef = .pointer (some ⟨w.heap.size, 0, none⟩) := by simpa using ep
    obtain ⟨cs, hcs, h7, hcv⟩ := hS.res
    obtain rfl := hcv 9 rfl (hall 9 (by decide))
    have r0 := hcs.at_ 0 _ rfl
    have r1 := hcs.at_ 1 _ rfl
    have r2 := hcs.at_ 2 _ rfl
    have r3 := hcs.at_ 3 _ rfl
    have r4 := hcs.at_ 4 _ rfl
    have HBw := Lib.hid (below_of (Below.refl w.heap.size w) hS.grown (Nat.le_refl _) (by omega))
    have HRW := Lib.hid (hRW.wide (show w.heap.size ≤ w.heap.size + 2 by omega) (Nat.le_of_lt hS.box.1))
    have hdf := hS.defers
    clear hS hall hcv h7 ep hRW hP
    go_wp2_with fail
    refine bodyPost_ret (v := .tuple #[.agg #[.int .i64 id, .int .i64 tm, .int .i64 sp.1, .int .i64 sp.2, .slice R m c'], .int .i64 x]) (by simp [results, Try.results16, go_sem, ep', ex', r0, r1, r2, r3, r4]) hdf ⟨id, tm, sp, R, m, c', l, x, rfl, HLL.out.1, HLL.out.2, HRW.out, HBw.out⟩
  · refine ⟨by simp, rfl, ?_, fun i d K hi hl => (rep_no' hl).elim, ⟨k2, by show k2 + 3 * 11 ≤ 2000; omega, HC3.out.drew_'⟩, ?_, HX3.out.drew, ⟨⟨HR3.out, Nat.le_of_lt HX3.out.1⟩, ?_⟩, ⟨by simp, ?_⟩, ⟨_, HZ3.out.drew, rfl, fun i _ hl => (rep_no' hl).elim⟩, HX3.out.drew, ⟨_, HX3.out.drew, rfl, fun i _ hl => (rep_no' hl).elim⟩, ⟨hbb, hbb, (by show w2.heap.size ≠ w.heap.size; omega), (by show w2.heap.size ≠ w.heap.size; omega)⟩⟩
    · intro p hp
      simp only [fixD7, List.mem_cons, List.not_mem_nil, or_false] at hp
      rcases hp with rfl | rfl | rfl <;> simp
    · have hB := HB3.out
      exact ⟨hB.os, hB.tape, hB.output, hB.size, fun i hi _ => hB.block i hi⟩
    · intro V V' q hg hq h
      exact ⟨h.1.keep hg h.2 (fun g' hR e => by have h1 := (h.1.2 g' hR).1; have h2 := Option.some.inj e; have h3 := hRb g' hR; rcases hq with rfl | rfl | hq <;> (try simp only at hq) <;> omega), Nat.le_trans h.2 hg.size⟩
    · intro q hq
      simp only [List.mem_cons, List.not_mem_nil, or_false] at hq
      have h3 := HZ3.out.1
      rw [hq]; exact h3
end Go.Proofs.Ytnpcnafjjgkfgaa
