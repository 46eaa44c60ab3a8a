/-
  Draws of the laws of casts: contracts of spec.DrawIsCast, DrawThinCast, DrawSpeedAt, DrawTravelTo, DrawMeanSpeed, DrawDepthFor, DrawSameLayers, DrawCastAt, DrawNearestCast over this translation. Conditions: stated at each theorem.
-/
import Derived.Test.YtdmnkmdlochogabRr
namespace Go.Proofs.Ytdmnkmdlochogab
open Go.RowKit Go.Sort Go.Deep
set_option linter.unusedVariables false

theorem cur_low' {B B' : Nat} {A : Option Addr} {n c g k : Nat} {W : World} (h : Cur B A n c g k W) (hr : CodeRow B' A n W) (hB : B' ≤ B) : Cur B' A n c g k W :=
  { h with row := hr, old := Nat.le_trans hB h.old }
/-- A cast that was drawn. -/
def DrawK (w : World) (w' : World) (R : Option Addr) (m : Nat) (l : List (Int × Int)) : Prop :=
  l.length = m ∧ m ≤ 9 ∧ OwnL w' w.heap.size w'.heap.size R m l ∧ Below w.heap.size w w'
def DrawKPost (w : World) (e : Ending) (w' : World) : Prop := ∃ (id tm : Int) (sp : Int × Int) (R : Option Addr) (m c : Nat) (l : List (Int × Int)), e = .returned (.agg #[.int .i64 id, .int .i64 tm, .int .i64 sp.1, .int .i64 sp.2, .slice R m c]) ∧ DrawK w w' R m l
def DrawKIPost (w : World) (e : Ending) (w' : World) : Prop := ∃ (id tm : Int) (sp : Int × Int) (R : Option Addr) (m c : Nat) (l : List (Int × Int)) (x : Int), e = .returned (.tuple #[.agg #[.int .i64 id, .int .i64 tm, .int .i64 sp.1, .int .i64 sp.2, .slice R m c], .int .i64 x]) ∧ DrawK w w' R m l
/-- The store of a drawn cast in the block that it is handed back in. -/
theorem drawn_ret {w W : World} {lo : Nat} {R : Option Addr} {m : Nat} {l : List (Int × Int)} {z0 z1 z2 z3 z4 : Value} (hO : OwnL W lo W.heap.size R m l) (hlo : w.heap.size < lo) (hZ : Has W w.heap.size [z0, z1, z2, z3, z4]) (hB : Below w.heap.size w W) (a b c d e : Value) :
    Has (setL W w.heap.size 0 [a, b, c, d, e]) w.heap.size [a, b, c, d, e] ∧ OwnL (setL W w.heap.size 0 [a, b, c, d, e]) w.heap.size (setL W w.heap.size 0 [a, b, c, d, e]).heap.size R m l ∧ Below w.heap.size w (setL W w.heap.size 0 [a, b, c, d, e]) := by
  have hg := setL_grown [a, b, c, d, e] W w.heap.size 0
  exact ⟨layK5 hZ a b c d e, (hO.keep hg (Nat.le_refl _) (fun g hR e => by have h1 := (hO.2 g hR).1; have h2 := Option.some.inj e; omega)).wide (by omega) hg.size, below_of hB hg (Nat.le_of_lt hZ.1) (Nat.le_refl _)⟩
def planS7 : List (Option Nat × Kd) := [(some 11, .agg), (some 12, .ptr), (some 13, .any), (none, .agg), (some 3, .any)]
def fixS7 (g bb br : Nat) : List (Nat × Value) := [(4, .pointer (some ⟨g, 0, none⟩)), (5, .pointer (some ⟨bb, 0, none⟩)), (2, .pointer (some ⟨br, 0, none⟩))]
theorem planS7_ok (g bb br : Nat) : planB 14 ((fixS7 g bb br).map (·.1)) planS7 = true := by kernel_rfl
set_option maxRecDepth 100000 in
set_option maxHeartbeats 12800000 in
theorem draw_speed (A : Option Addr) (n c : Nat) (w : World) (h : CodeRow w.heap.size A n w) : Calls Try.prog 125 #[.slice A n c] w (DrawKIPost w) := by
  obtain ⟨W1, hW1⟩ : ∃ W, W = (w.alloc (.cells #[.int .i64 0, .int .i64 0, .int .i64 0, .int .i64 0, .slice none 0 0] 64)).alloc (.cells #[.slice A n c, .int .i64 0, .int .u64 0] 100) := ⟨_, rfl⟩
  have HS1 : Hid (W1.heap.size = w.heap.size + 2) := by rw [hW1]; exact Lib.hid (by simp)
  have HB1 : Hid (Below w.heap.size w W1) := by rw [hW1]; exact Lib.hid (((Below.refl w.heap.size w).alloc (by simp <;> omega) _).alloc (by simp <;> omega) _)
  have HZ1a : Hid (Has W1 (w.heap.size) [.int .i64 0, .int .i64 0, .int .i64 0, .int .i64 0, .slice none 0 0]) := by rw [hW1]; exact Lib.hid (((by simpa using Has.new w #[.int .i64 0, .int .i64 0, .int .i64 0, .int .i64 0, .slice none 0 0] 64 : Has (w.alloc (.cells #[.int .i64 0, .int .i64 0, .int .i64 0, .int .i64 0, .slice none 0 0] 64)) w.heap.size [.int .i64 0, .int .i64 0, .int .i64 0, .int .i64 0, .slice none 0 0]).alloc _))
  have HC1 : Hid (Cur w.heap.size A n c (w.heap.size + 1) 0 W1) := by
    have h1 := cur_new (w.alloc (.cells #[.int .i64 0, .int .i64 0, .int .i64 0, .int .i64 0, .slice none 0 0] 64)) A n c 100 (h.below (B' := (w.alloc (.cells #[.int .i64 0, .int .i64 0, .int .i64 0, .int .i64 0, .slice none 0 0] 64)).heap.size) ((Below.refl w.heap.size w).alloc (by simp <;> omega) _) (by simp <;> omega))
    rw [← hW1] at h1
    have hsz : (w.alloc (.cells #[.int .i64 0, .int .i64 0, .int .i64 0, .int .i64 0, .slice none 0 0] 64)).heap.size = w.heap.size + 1 := by simp
    rw [hsz] at h1
    exact Lib.hid (cur_low' h1 (h.below HB1.out (Nat.le_refl _)) (by omega))
  have HE1 := Lib.hid hW1
  clear h hW1
  go_enter Try.func125, Try.ntmps125
  go_upto_region 2 with fail
  rw [← HE1.out]
  go_wp2_with fail
  refine (cast_any _ _ _ _ _ _ _ _ _ HC1.out (by omega)).mono ?_
  rintro e w2 ⟨id, tm, sp, R, m, c', l, k2, hl, hm9, hk2, rfl, hO, hc, hg⟩
  rw [HS1.out] at hO
  have hRb : ∀ g', R = some ⟨g', 0, none⟩ → g' < w2.heap.size := fun g' hR => by
    obtain ⟨_, cur, hc2⟩ := hO.2 g' hR
    exact (Array.getElem?_eq_some_iff.1 hc2).1
  have HR2 := Lib.hid hO
  have HC2 := Lib.hid hc
  have HB2 := Lib.hid (below_of HB1.out hg HB1.out.size (by omega))
  have HZ2 := Lib.hid (has_grown HZ1a.out hg (fun e => by have := Option.some.inj e; omega))
  have hz2 := HZ2.out.1
  have hc2 := HC2.out.lt
  have HLL := Lib.hid (And.intro hl hm9)
  clear hc hg HC1 HB1 HZ1a HE1 hO hl HS1
  obtain ⟨W3, hW3⟩ : ∃ W, W = w2.alloc (.cells #[.int .i64 id, .int .i64 tm, .int .i64 sp.1, .int .i64 sp.2, .slice R m c'] 64) := ⟨_, rfl⟩
  have HX3 : Hid (Has W3 w2.heap.size [.int .i64 id, .int .i64 tm, .int .i64 sp.1, .int .i64 sp.2, .slice R m c']) := by rw [hW3]; exact Lib.hid (by simpa using Has.new w2 #[.int .i64 id, .int .i64 tm, .int .i64 sp.1, .int .i64 sp.2, .slice R m c'] 64)
  have HC3 : Hid (Cur w.heap.size A n c (w.heap.size + 1) k2 W3) := by rw [hW3]; exact Lib.hid (HC2.out.alloc _)
  have HB3 : Hid (Below w.heap.size w W3) := by rw [hW3]; exact Lib.hid (HB2.out.alloc HB2.out.size _)
  have HZ3 : Hid (Has W3 w.heap.size [.int .i64 0, .int .i64 0, .int .i64 0, .int .i64 0, .slice none 0 0]) := by rw [hW3]; exact Lib.hid (HZ2.out.alloc _)
  have HR3 : Hid (OwnL W3 (w.heap.size + 2) w2.heap.size R m l) := by rw [hW3]; exact Lib.hid (HR2.out.keep (World.grownBy_alloc _ _ none) (Nat.le_refl _) (fun _ _ e => by cases e))
  have HE3 := Lib.hid hW3
  clear hW3 HC2 HB2 HZ2 HR2
  go_upto_region 3 with fail
  rw [← HE3.out]
  have hbb : w2.heap.size ≠ w.heap.size + 1 := by omega
  have hbr : w.heap.size ≠ w.heap.size + 1 := by omega
  have hP := planS7_ok (w.heap.size + 1) w2.heap.size w.heap.size
  refine region_inv (by kernel_rfl) (by kernel_rfl) (Sv w.heap.size A n c (w.heap.size + 1) id sp tm R m c' w 2000 14 (fixS7 (w.heap.size + 1) w2.heap.size w.heap.size) planS7 w2.heap.size w.heap.size (fun V => OwnL V (w.heap.size + 2) w2.heap.size R m l ∧ w2.heap.size ≤ V.heap.size) [w.heap.size] ⟨w2.heap.size, w2.heap.size, id, tm, sp, R, m, c'⟩) ?_ ?_ ?_
  · intro fuel listed a W hS i o ho hf hd
    have hi : i < 5 := (Array.getElem?_eq_some_iff.1 ho).1
    obtain rfl | rfl | rfl | rfl | rfl : i = 0 ∨ i = 1 ∨ i = 2 ∨ i = 3 ∨ i = 4 := by omega
    · exact hS.load hP hbb hbr ho (d := 11) (t := 5) (by kernel_rfl) (by simp [fixS7]) rfl
    · exact hS.move hP hbb hbr ho (d := 12) (t := 4) (by kernel_rfl) (by simp [fixS7]) rfl
    · exact hS.draws hP hbb hbr ho Try.func174 (by kernel_rfl) (by kernel_rfl) (fun k W hk hc => depth7_any _ _ _ _ _ k W hc (by omega)) (ts := #[97]) (d := 13) (t := 12) (by kernel_rfl) (j := 1) rfl (dep_of (j := 1) (by kernel_rfl) ho hd) rfl
    · exact hS.store (by omega) hbr (Nat.le_refl _) (Nat.le_refl _) ho (t := 2) (s := 11) (by kernel_rfl) (by simp [fixS7]) (j := 0) rfl (dep_of (j := 0) (by kernel_rfl) ho hd) rfl
    · exact hS.assign hP hbb hbr ho (d := 3) (t := 13) (by kernel_rfl) (j := 2) rfl (dep_of (j := 2) (by kernel_rfl) ho hd) rfl
  · intro fuel listed a W hS hall
    have hRW := hS.kept.1.1
    obtain ⟨x, ex⟩ := hS.slots 4 3 .any rfl (hall 4 (by decide))
    have ex' : a.tmps[3]?.getD undef = .int .i64 x := by simpa using ex
    have ep := hS.fix (2, .pointer (some ⟨w.heap.size, 0, none⟩)) (by simp [fixS7])
    have ep' : a.tmps[2]?.getD undef = .pointer (some ⟨w.heap.size, 0, none⟩) := by simpa using ep
    obtain ⟨cs, hcs, h7, hcv⟩ := hS.res
    obtain rfl := hcv 3 rfl (hall 3 (by decide))
    have r0 := hcs.at_ 0 _ rfl
    have r1 := hcs.at_ 1 _ rfl
    have r2 := hcs.at_ 2 _ rfl
    have r3 := hcs.at_ 3 _ rfl
    have r4 := hcs.at_ 4 _ rfl
    have HBw := Lib.hid (below_of (Below.refl w.heap.size w) hS.grown (Nat.le_refl _) (by omega))
    have HRW := Lib.hid (hRW.wide (show w.heap.size ≤ w.heap.size + 2 by omega) (Nat.le_of_lt hS.box.1))
    have hdf := hS.defers
    clear hS hall hcv h7 ep hRW hP
    go_wp2_with fail
    refine bodyPost_ret (v := .tuple #[.agg #[.int .i64 id, .int .i64 tm, .int .i64 sp.1, .int .i64 sp.2, .slice R m c'], .int .i64 x]) (by simp [results, Try.results125, go_sem, ep', ex', r0, r1, r2, r3, r4]) hdf ⟨id, tm, sp, R, m, c', l, x, rfl, HLL.out.1, HLL.out.2, HRW.out, HBw.out⟩
  · refine ⟨by simp, rfl, ?_, fun i d K hi hl => (rep_no' hl).elim, ⟨k2, by show k2 + 3 * 5 ≤ 2000; omega, HC3.out.drew_'⟩, ?_, HX3.out.drew, ⟨⟨HR3.out, Nat.le_of_lt HX3.out.1⟩, ?_⟩, ⟨by simp, ?_⟩, ⟨_, HZ3.out.drew, rfl, fun i _ hl => (rep_no' hl).elim⟩, HX3.out.drew, ⟨_, HX3.out.drew, rfl, fun i _ hl => (rep_no' hl).elim⟩, ⟨hbb, hbb, (by show w2.heap.size ≠ w.heap.size; omega), (by show w2.heap.size ≠ w.heap.size; omega)⟩⟩
    · intro p hp
      simp only [fixS7, List.mem_cons, List.not_mem_nil, or_false] at hp
      rcases hp with rfl | rfl | rfl <;> simp
    · have hB := HB3.out
      exact ⟨hB.os, hB.tape, hB.output, hB.size, fun i hi _ => hB.block i hi⟩
    · intro V V' q hg hq h
      exact ⟨h.1.keep hg h.2 (fun g' hR e => by have h1 := (h.1.2 g' hR).1; have h2 := Option.some.inj e; have h3 := hRb g' hR; rcases hq with rfl | rfl | hq <;> (try simp only at hq) <;> omega), Nat.le_trans h.2 hg.size⟩
    · intro q hq
      simp only [List.mem_cons, List.not_mem_nil, or_false] at hq
      have h3 := HZ3.out.1
      rw [hq]; exact h3
def planD7 : List (Option Nat × Kd) := [(some 11, .agg), (some 12, .ptr), (some 13, .row [0, 6, 7, 1000, 10000, 140000, 1000000, -1, 1000001]), (some 14, .ptr), (some 15, .num 0 23), (some 16, .num 0 2), (some 17, .num 7 9), (some 18, .pre [0, 6, 7, 1000, 10000, 140000, 1000000, -1, 1000001]), (some 19, .any), (none, .agg), (some 3, .any)]
def fixD7 (g bb br : Nat) : List (Nat × Value) := [(4, .pointer (some ⟨g, 0, none⟩)), (5, .pointer (some ⟨bb, 0, none⟩)), (2, .pointer (some ⟨br, 0, none⟩))]
theorem planD7_ok (g bb br : Nat) : planB 20 ((fixD7 g bb br).map (·.1)) planD7 = true := by kernel_rfl
end Go.Proofs.Ytdmnkmdlochogab
