/-
  Draws of a gauge and numbers: contracts of spec.DrawShiftZero, DrawGapsOf, DrawAddReading over this translation. Conditions: stated at each theorem.
-/
import Derived.Test.YtlggcfeclbcfaaaDk
namespace Go.Proofs.Ytlggcfeclbcfaaa
open Go.RowKit Go.Sort

theorem cur_low' {B B' : Nat} {A : Option Addr} {n c g k : Nat} {W : World} (h : Cur B A n c g k W) (hr : CodeRow B' A n W) (hB : B' ≤ B) : Cur B' A n c g k W :=
  { h with row := hr, old := Nat.le_trans hB h.old }
theorem grow_own {base m cap : Nat} {l : List (Int × Int)} {R : Option Addr} {W : World} (h : GRow base l (.slice R m cap) W) (hl : l.length = m) : Own2 W base W.heap.size R m l := by
  unfold GRow at h
  rw [hl] at h
  exact own2_of_row h hl
/-- A gauge that was drawn, and what else. -/
def DrawG (w : World) (w' : World) (gn : ByteArray) (gR : Option Addr) (gm gc : Nat) (l : List (Int × Int)) : Prop :=
  l.length = gm ∧ gm ≤ 24 ∧ gn.size ≤ 11 ∧ GRow w.heap.size l (.slice gR gm gc) w' ∧ Below w.heap.size w w'
def planZ : List (Option Nat × Kd) := [(some 11, .agg), (some 12, .ptr), (some 13, .row [0, -100, 40, 1000, -1000, -1001, 1001]), (some 14, .ptr), (some 15, .num 0 23), (some 16, .num 0 2), (some 17, .num 5 7), (some 18, .pre [0, -100, 40, 1000, -1000, -1001, 1001]), (some 19, .any), (none, .agg), (some 3, .any)]
def fixZ (g bb br _b2 : Nat) : List (Nat × Value) := [(4, .pointer (some ⟨g, 0, none⟩)), (5, .pointer (some ⟨bb, 0, none⟩)), (2, .pointer (some ⟨br, 0, none⟩))]
theorem planZ_ok (g bb br b2 : Nat) : planB 20 ((fixZ g bb br b2).map (·.1)) planZ = true := by kernel_rfl
def DrawZPost (w : World) (e : Ending) (w' : World) : Prop := ∃ (gi : Int) (gn : ByteArray) (gz : Int) (gR : Option Addr) (gm gc : Nat) (l : List (Int × Int)) (x : Int), e = .returned (.tuple #[.agg #[.int .i64 gi, .string gn, .int .i64 gz, .slice gR gm gc], .int .i64 x]) ∧ DrawG w w' gn gR gm gc l
set_option maxRecDepth 100000 in
set_option maxHeartbeats 12800000 in
theorem draw_shift (A : Option Addr) (n c : Nat) (w : World) (h : CodeRow w.heap.size A n w) : Calls Try.prog 12 #[.slice A n c] w (DrawZPost w) := by
  obtain ⟨W1, hW1⟩ : ∃ W, W = (w.alloc (.cells #[.int .i64 0, .string ⟨#[]⟩, .int .i64 0, .slice none 0 0] 26)).alloc (.cells #[.slice A n c, .int .i64 0, .int .u64 0] 63) := ⟨_, rfl⟩
  have HS1 : Hid (W1.heap.size = w.heap.size + 2) := by rw [hW1]; exact Lib.hid (by simp)
  have HB1 : Hid (Below w.heap.size w W1) := by rw [hW1]; exact Lib.hid ((((Below.refl w.heap.size w).alloc (Nat.le_refl _) _)).alloc (by simp) _)
  have HZ1 : Hid (Has W1 w.heap.size [.int .i64 0, .string ⟨#[]⟩, .int .i64 0, .slice none 0 0]) := by rw [hW1]; exact Lib.hid (((by simpa using Has.new w #[.int .i64 0, .string ⟨#[]⟩, .int .i64 0, .slice none 0 0] 26 : Has (w.alloc (.cells #[.int .i64 0, .string ⟨#[]⟩, .int .i64 0, .slice none 0 0] 26)) w.heap.size [.int .i64 0, .string ⟨#[]⟩, .int .i64 0, .slice none 0 0])).alloc _)
  have HC1 : Hid (Cur w.heap.size A n c (w.heap.size + 1) 0 W1) := by
    have h1 := cur_new (w.alloc (.cells #[.int .i64 0, .string ⟨#[]⟩, .int .i64 0, .slice none 0 0] 26)) A n c 63 (h.below (B' := (w.alloc (.cells #[.int .i64 0, .string ⟨#[]⟩, .int .i64 0, .slice none 0 0] 26)).heap.size) (((Below.refl w.heap.size w).alloc (Nat.le_refl _) _)) (by simp <;> omega))
    rw [← hW1] at h1
    have hsz : (w.alloc (.cells #[.int .i64 0, .string ⟨#[]⟩, .int .i64 0, .slice none 0 0] 26)).heap.size = w.heap.size + 1 := by simp
    rw [hsz] at h1
    exact Lib.hid (cur_low' h1 (h.below HB1.out (Nat.le_refl _)) (by omega))
  have HE1 := Lib.hid hW1
  clear h hW1
  go_enter Try.func12, Try.ntmps12
  go_upto_region 2 with fail
  rw [← HE1.out]
  go_wp2_with fail
  refine (gauge_any _ _ _ _ _ _ _ _ HC1.out (by omega)).mono ?_
  rintro e w2 ⟨gi, gn, gz, gR, gm, gc, l, k2, hll, hgm, hgn, hk2, rfl, hrow, hc, hg⟩
  have HR2 : Hid (GRow (w.heap.size + 2) l (.slice gR gm gc) w2) := by rw [← HS1.out]; exact Lib.hid hrow
  have HC2 := Lib.hid hc
  have HB2 := Lib.hid (below_of HB1.out hg HB1.out.size (by omega))
  have HZ2 := Lib.hid (has_grown HZ1.out hg (fun e => by have := Option.some.inj e; omega))
  have hz2 := HZ2.out.1
  have hc2 := HC2.out.lt
  have HLL := Lib.hid hll
  clear hc hg HC1 HB1 HZ1 HE1 hrow hll HS1
  obtain ⟨W3, hW3⟩ : ∃ W, W = w2.alloc (.cells #[.int .i64 gi, .string gn, .int .i64 gz, .slice gR gm gc] 26) := ⟨_, rfl⟩
  have HX3 : Hid (Has W3 w2.heap.size [.int .i64 gi, .string gn, .int .i64 gz, .slice gR gm gc]) := by rw [hW3]; exact Lib.hid (by simpa using Has.new w2 #[.int .i64 gi, .string gn, .int .i64 gz, .slice gR gm gc] 26)
  have HC3 : Hid (Cur w.heap.size A n c (w.heap.size + 1) k2 W3) := by rw [hW3]; exact Lib.hid (HC2.out.alloc _)
  have HB3 : Hid (Below w.heap.size w W3) := by rw [hW3]; exact Lib.hid (HB2.out.alloc HB2.out.size _)
  have HZ3 : Hid (Has W3 w.heap.size [.int .i64 0, .string ⟨#[]⟩, .int .i64 0, .slice none 0 0]) := by rw [hW3]; exact Lib.hid (HZ2.out.alloc _)
  have HR3 : Hid (GRow (w.heap.size + 2) l (.slice gR gm gc) W3) := by rw [hW3]; exact Lib.hid (World.ownsRow.alloc HR2.out _)
  have HE3 := Lib.hid hW3
  clear hW3 HC2 HB2 HZ2 HR2
  go_upto_region 3 with fail
  rw [← HE3.out]
  have hbb : w2.heap.size ≠ w.heap.size + 1 := by omega
  have hbr : w.heap.size ≠ w.heap.size + 1 := by omega
  have hP := planZ_ok (w.heap.size + 1) w2.heap.size w.heap.size (w.heap.size + 1)
  refine region_inv (by kernel_rfl) (by kernel_rfl) (Sv w.heap.size A n c (w.heap.size + 1) gi gn gz gR gm gc w 1000 20 (fixZ (w.heap.size + 1) w2.heap.size w.heap.size (w.heap.size + 1)) planZ w2.heap.size w.heap.size (fun X => GRow (w.heap.size + 2) l (.slice gR gm gc) X) [w.heap.size]) ?_ ?_ ?_
  · intro fuel listed a W hS i o ho hf hd
    have hi : i < 11 := (Array.getElem?_eq_some_iff.1 ho).1
    obtain rfl | rfl | rfl | rfl | rfl | rfl | rfl | rfl | rfl | rfl | rfl : i = 0 ∨ i = 1 ∨ i = 2 ∨ i = 3 ∨ i = 4 ∨ i = 5 ∨ i = 6 ∨ i = 7 ∨ i = 8 ∨ i = 9 ∨ i = 10 := by omega
    · exact hS.load hP hbb hbr ho (d := 11) (t := 5) (by kernel_rfl) (by simp [fixZ]) rfl
    · exact hS.move hP hbb hbr ho (d := 12) (t := 4) (by kernel_rfl) (by simp [fixZ]) rfl
    · exact hS.build hP hbb hbr ho (d := 13) (xs := [0, -100, 40, 1000, -1000, -1001, 1001]) (p := .buildSlice 44 7 #[(0, .const (.int .i64 0)), (1, .const (Value.int IntKind.i64 (-100))), (2, .const (.int .i64 40)), (3, .const (.int .i64 1000)), (4, .const (Value.int IntKind.i64 (-1000))), (5, .const (Value.int IntKind.i64 (-1001))), (6, .const (.int .i64 1001))]) (by kernel_rfl) (fun o a W ho => by simp [execOp, ho, go_sem]) rfl
    · exact hS.move hP hbb hbr ho (d := 14) (t := 4) (by kernel_rfl) (by simp [fixZ]) rfl
    · exact hS.pick hP hbb hbr ho (by omega) (d := 15) (t := 14) (ts := #[60, 3]) (by kernel_rfl) (j := 3) rfl (dep_of (j := 3) (by kernel_rfl) ho hd) rfl
    · exact hS.quo hP hbb hbr ho (d := 16) (t := 15) (by kernel_rfl) (j := 4) rfl (dep_of (j := 4) (by kernel_rfl) ho hd) rfl
    · exact hS.add hP hbb hbr ho (m := 5) (by omega) (d := 17) (t := 16) (by kernel_rfl) (j := 5) rfl (dep_of (j := 5) (by kernel_rfl) ho hd) rfl
    · exact hS.slice hP hbb hbr ho (m := 5) (xs := [0, -100, 40, 1000, -1000, -1001, 1001]) (by omega) (by decide) (by decide) (d := 18) (t := 13) (s := 17) (by kernel_rfl) (j := 2) rfl (dep_of (j := 2) (by kernel_rfl) ho hd) (j' := 6) rfl (dep_of (j := 6) (by kernel_rfl) ho hd) rfl
    · exact hS.among hP hbb hbr ho (by omega) (xs := [0, -100, 40, 1000, -1000, -1001, 1001]) (by decide) (d := 19) (t := 12) (s := 18) (ts := #[60, 44]) (by kernel_rfl) (j := 1) rfl (dep_of (j := 1) (by kernel_rfl) ho hd) (j' := 7) rfl (dep_of (j := 7) (by kernel_rfl) ho hd) rfl
    · exact hS.store (by omega) hbr (Nat.le_refl _) (Nat.le_refl _) ho (t := 2) (s := 11) (by kernel_rfl) (by simp [fixZ]) (j := 0) rfl (dep_of (j := 0) (by kernel_rfl) ho hd) rfl
    · exact hS.assign hP hbb hbr ho (d := 3) (t := 19) (by kernel_rfl) (j := 8) rfl (dep_of (j := 8) (by kernel_rfl) ho hd) rfl
  · intro fuel listed a W hS hall
    have hRW := hS.kept.1
    obtain ⟨x, ex⟩ := hS.slots 10 3 .any rfl (hall 10 (by decide))
    have ex' : a.tmps[3]?.getD undef = .int .i64 x := by simpa using ex
    have ep := hS.fix (2, .pointer (some ⟨w.heap.size, 0, none⟩)) (by simp [fixZ])
    have ep' : a.tmps[2]?.getD undef = .pointer (some ⟨w.heap.size, 0, none⟩) := by simpa using ep
    obtain ⟨cs, hcs, h7, hcv⟩ := hS.res
    obtain rfl := hcv 9 rfl (hall 9 (by decide))
    have r0 := hcs.at_ 0 _ rfl
    have r1 := hcs.at_ 1 _ rfl
    have r2 := hcs.at_ 2 _ rfl
    have r3 := hcs.at_ 3 _ rfl
    have HBw := Lib.hid (below_of (Below.refl w.heap.size w) hS.grown (Nat.le_refl _) (by omega))
    have HRW := Lib.hid (own_base hRW (show w.heap.size ≤ w.heap.size + 2 by omega))
    have hdf := hS.defers
    clear hS hall hcv h7 ep hRW hP
    go_wp2_with fail
    refine bodyPost_ret (v := .tuple #[.agg #[.int .i64 gi, .string gn, .int .i64 gz, .slice gR gm gc], .int .i64 x]) (by simp [results, Try.results12, go_sem, ep', ex', r0, r1, r2, r3]) hdf ⟨gi, gn, gz, gR, gm, gc, l, x, rfl, HLL.out, hgm, hgn, HRW.out, HBw.out⟩
  · refine ⟨by simp, rfl, ?_, fun i d K hi hl => (rep_no' hl).elim, ⟨k2, by show k2 + 11 ≤ 1000; omega, HC3.out.drew_'⟩, ?_, HX3.out.drew, ⟨own_drew HR3.out, ?_⟩, ⟨by simp, ?_⟩, ⟨_, HZ3.out.drew, rfl, fun i _ hl => (rep_no' hl).elim⟩⟩
    · intro p hp
      simp only [fixZ, List.mem_cons, List.not_mem_nil, or_false] at hp
      rcases hp with rfl | rfl | rfl <;> simp
    · have hB := HB3.out
      exact ⟨hB.os, hB.tape, hB.output, hB.size, fun i hi _ => hB.block i hi⟩
    · intro X Y q hg hq h
      exact own_any h hg (fun i e => by have := Option.some.inj e; omega)
    · intro q hq
      simp only [List.mem_cons, List.not_mem_nil, or_false] at hq
      have h3 := HZ3.out.1
      rw [hq]; exact h3
def planP : List (Option Nat × Kd) := [(some 11, .agg), (some 12, .ptr), (some 13, .row [1, 10, 19, 20, 60, 10000, 0, 10001]), (some 14, .ptr), (some 15, .num 0 23), (some 16, .num 0 2), (some 17, .num 6 8), (some 18, .pre [1, 10, 19, 20, 60, 10000, 0, 10001]), (some 19, .any), (none, .agg), (some 3, .any)]
def fixP (g bb br _b2 : Nat) : List (Nat × Value) := [(4, .pointer (some ⟨g, 0, none⟩)), (5, .pointer (some ⟨bb, 0, none⟩)), (2, .pointer (some ⟨br, 0, none⟩))]
theorem planP_ok (g bb br b2 : Nat) : planB 20 ((fixP g bb br b2).map (·.1)) planP = true := by kernel_rfl
def DrawPPost (w : World) (e : Ending) (w' : World) : Prop := ∃ (gi : Int) (gn : ByteArray) (gz : Int) (gR : Option Addr) (gm gc : Nat) (l : List (Int × Int)) (x : Int), e = .returned (.tuple #[.agg #[.int .i64 gi, .string gn, .int .i64 gz, .slice gR gm gc], .int .i64 x]) ∧ DrawG w w' gn gR gm gc l
set_option maxRecDepth 100000 in
set_option maxHeartbeats 12800000 in
theorem draw_gaps (A : Option Addr) (n c : Nat) (w : World) (h : CodeRow w.heap.size A n w) : Calls Try.prog 15 #[.slice A n c] w (DrawPPost w) := by
  obtain ⟨W1, hW1⟩ : ∃ W, W = (w.alloc (.cells #[.int .i64 0, .string ⟨#[]⟩, .int .i64 0, .slice none 0 0] 26)).alloc (.cells #[.slice A n c, .int .i64 0, .int .u64 0] 63) := ⟨_, rfl⟩
  have HS1 : Hid (W1.heap.size = w.heap.size + 2) := by rw [hW1]; exact Lib.hid (by simp)
  have HB1 : Hid (Below w.heap.size w W1) := by rw [hW1]; exact Lib.hid ((((Below.refl w.heap.size w).alloc (Nat.le_refl _) _)).alloc (by simp) _)
  have HZ1 : Hid (Has W1 w.heap.size [.int .i64 0, .string ⟨#[]⟩, .int .i64 0, .slice none 0 0]) := by rw [hW1]; exact Lib.hid (((by simpa using Has.new w #[.int .i64 0, .string ⟨#[]⟩, .int .i64 0, .slice none 0 0] 26 : Has (w.alloc (.cells #[.int .i64 0, .string ⟨#[]⟩, .int .i64 0, .slice none 0 0] 26)) w.heap.size [.int .i64 0, .string ⟨#[]⟩, .int .i64 0, .slice none 0 0])).alloc _)
  have HC1 : Hid (Cur w.heap.size A n c (w.heap.size + 1) 0 W1) := by
    have h1 := cur_new (w.alloc (.cells #[.int .i64 0, .string ⟨#[]⟩, .int .i64 0, .slice none 0 0] 26)) A n c 63 (h.below (B' := (w.alloc (.cells #[.int .i64 0, .string ⟨#[]⟩, .int .i64 0, .slice none 0 0] 26)).heap.size) (((Below.refl w.heap.size w).alloc (Nat.le_refl _) _)) (by simp <;> omega))
    rw [← hW1] at h1
    have hsz : (w.alloc (.cells #[.int .i64 0, .string ⟨#[]⟩, .int .i64 0, .slice none 0 0] 26)).heap.size = w.heap.size + 1 := by simp
    rw [hsz] at h1
    exact Lib.hid (cur_low' h1 (h.below HB1.out (Nat.le_refl _)) (by omega))
  have HE1 := Lib.hid hW1
  clear h hW1
  go_enter Try.func15, Try.ntmps15
  go_upto_region 2 with fail
  rw [← HE1.out]
  go_wp2_with fail
  refine (gauge_any _ _ _ _ _ _ _ _ HC1.out (by omega)).mono ?_
  rintro e w2 ⟨gi, gn, gz, gR, gm, gc, l, k2, hll, hgm, hgn, hk2, rfl, hrow, hc, hg⟩
  have HR2 : Hid (GRow (w.heap.size + 2) l (.slice gR gm gc) w2) := by rw [← HS1.out]; exact Lib.hid hrow
  have HC2 := Lib.hid hc
  have HB2 := Lib.hid (below_of HB1.out hg HB1.out.size (by omega))
  have HZ2 := Lib.hid (has_grown HZ1.out hg (fun e => by have := Option.some.inj e; omega))
  have hz2 := HZ2.out.1
  have hc2 := HC2.out.lt
  have HLL := Lib.hid hll
  clear hc hg HC1 HB1 HZ1 HE1 hrow hll HS1
  obtain ⟨W3, hW3⟩ : ∃ W, W = w2.alloc (.cells #[.int .i64 gi, .string gn, .int .i64 gz, .slice gR gm gc] 26) := ⟨_, rfl⟩
  have HX3 : Hid (Has W3 w2.heap.size [.int .i64 gi, .string gn, .int .i64 gz, .slice gR gm gc]) := by rw [hW3]; exact Lib.hid (by simpa using Has.new w2 #[.int .i64 gi, .string gn, .int .i64 gz, .slice gR gm gc] 26)
  have HC3 : Hid (Cur w.heap.size A n c (w.heap.size + 1) k2 W3) := by rw [hW3]; exact Lib.hid (HC2.out.alloc _)
  have HB3 : Hid (Below w.heap.size w W3) := by rw [hW3]; exact Lib.hid (HB2.out.alloc HB2.out.size _)
  have HZ3 : Hid (Has W3 w.heap.size [.int .i64 0, .string ⟨#[]⟩, .int .i64 0, .slice none 0 0]) := by rw [hW3]; exact Lib.hid (HZ2.out.alloc _)
  have HR3 : Hid (GRow (w.heap.size + 2) l (.slice gR gm gc) W3) := by rw [hW3]; exact Lib.hid (World.ownsRow.alloc HR2.out _)
  have HE3 := Lib.hid hW3
  clear hW3 HC2 HB2 HZ2 HR2
  go_upto_region 3 with fail
  rw [← HE3.out]
  have hbb : w2.heap.size ≠ w.heap.size + 1 := by omega
  have hbr : w.heap.size ≠ w.heap.size + 1 := by omega
  have hP := planP_ok (w.heap.size + 1) w2.heap.size w.heap.size (w.heap.size + 1)
  refine region_inv (by kernel_rfl) (by kernel_rfl) (Sv w.heap.size A n c (w.heap.size + 1) gi gn gz gR gm gc w 1000 20 (fixP (w.heap.size + 1) w2.heap.size w.heap.size (w.heap.size + 1)) planP w2.heap.size w.heap.size (fun X => GRow (w.heap.size + 2) l (.slice gR gm gc) X) [w.heap.size]) ?_ ?_ ?_
  · intro fuel listed a W hS i o ho hf hd
    have hi : i < 11 := (Array.getElem?_eq_some_iff.1 ho).1
    obtain rfl | rfl | rfl | rfl | rfl | rfl | rfl | rfl | rfl | rfl | rfl : i = 0 ∨ i = 1 ∨ i = 2 ∨ i = 3 ∨ i = 4 ∨ i = 5 ∨ i = 6 ∨ i = 7 ∨ i = 8 ∨ i = 9 ∨ i = 10 := by omega
    · exact hS.load hP hbb hbr ho (d := 11) (t := 5) (by kernel_rfl) (by simp [fixP]) rfl
    · exact hS.move hP hbb hbr ho (d := 12) (t := 4) (by kernel_rfl) (by simp [fixP]) rfl
    · exact hS.build hP hbb hbr ho (d := 13) (xs := [1, 10, 19, 20, 60, 10000, 0, 10001]) (p := .buildSlice 44 8 #[(0, .const (.int .i64 1)), (1, .const (.int .i64 10)), (2, .const (.int .i64 19)), (3, .const (.int .i64 20)), (4, .const (.int .i64 60)), (5, .const (.int .i64 10000)), (6, .const (.int .i64 0)), (7, .const (.int .i64 10001))]) (by kernel_rfl) (fun o a W ho => by simp [execOp, ho, go_sem]) rfl
    · exact hS.move hP hbb hbr ho (d := 14) (t := 4) (by kernel_rfl) (by simp [fixP]) rfl
    · exact hS.pick hP hbb hbr ho (by omega) (d := 15) (t := 14) (ts := #[60, 3]) (by kernel_rfl) (j := 3) rfl (dep_of (j := 3) (by kernel_rfl) ho hd) rfl
    · exact hS.quo hP hbb hbr ho (d := 16) (t := 15) (by kernel_rfl) (j := 4) rfl (dep_of (j := 4) (by kernel_rfl) ho hd) rfl
    · exact hS.add hP hbb hbr ho (m := 6) (by omega) (d := 17) (t := 16) (by kernel_rfl) (j := 5) rfl (dep_of (j := 5) (by kernel_rfl) ho hd) rfl
    · exact hS.slice hP hbb hbr ho (m := 6) (xs := [1, 10, 19, 20, 60, 10000, 0, 10001]) (by omega) (by decide) (by decide) (d := 18) (t := 13) (s := 17) (by kernel_rfl) (j := 2) rfl (dep_of (j := 2) (by kernel_rfl) ho hd) (j' := 6) rfl (dep_of (j := 6) (by kernel_rfl) ho hd) rfl
    · exact hS.among hP hbb hbr ho (by omega) (xs := [1, 10, 19, 20, 60, 10000, 0, 10001]) (by decide) (d := 19) (t := 12) (s := 18) (ts := #[60, 44]) (by kernel_rfl) (j := 1) rfl (dep_of (j := 1) (by kernel_rfl) ho hd) (j' := 7) rfl (dep_of (j := 7) (by kernel_rfl) ho hd) rfl
    · exact hS.store (by omega) hbr (Nat.le_refl _) (Nat.le_refl _) ho (t := 2) (s := 11) (by kernel_rfl) (by simp [fixP]) (j := 0) rfl (dep_of (j := 0) (by kernel_rfl) ho hd) rfl
    · exact hS.assign hP hbb hbr ho (d := 3) (t := 19) (by kernel_rfl) (j := 8) rfl (dep_of (j := 8) (by kernel_rfl) ho hd) rfl
  · intro fuel listed a W hS hall
    have hRW := hS.kept.1
    obtain ⟨x, ex⟩ := hS.slots 10 3 .any rfl (hall 10 (by decide))
    have ex' : a.tmps[3]?.getD undef = .int .i64 x := by simpa using ex
    have ep := hS.fix (2, .pointer (some ⟨w.heap.size, 0, none⟩)) (by simp [fixP])
    have ep' : a.tmps[2]?.getD undef = .pointer (some ⟨w.heap.size, 0, none⟩) := by simpa using ep
    obtain ⟨cs, hcs, h7, hcv⟩ := hS.res
    obtain rfl := hcv 9 rfl (hall 9 (by decide))
    have r0 := hcs.at_ 0 _ rfl
    have r1 := hcs.at_ 1 _ rfl
    have r2 := hcs.at_ 2 _ rfl
    have r3 := hcs.at_ 3 _ rfl
    have HBw := Lib.hid (below_of (Below.refl w.heap.size w) hS.grown (Nat.le_refl _) (by omega))
    have HRW := Lib.hid (own_base hRW (show w.heap.size ≤ w.heap.size + 2 by omega))
    have hdf := hS.defers
    clear hS hall hcv h7 ep hRW hP
    go_wp2_with fail
    refine bodyPost_ret (v := .tuple #[.agg #[.int .i64 gi, .string gn, .int .i64 gz, .slice gR gm gc], .int .i64 x]) (by simp [results, Try.results15, go_sem, ep', ex', r0, r1, r2, r3]) hdf ⟨gi, gn, gz, gR, gm, gc, l, x, rfl, HLL.out, hgm, hgn, HRW.out, HBw.out⟩
  · refine ⟨by simp, rfl, ?_, fun i d K hi hl => (rep_no' hl).elim, ⟨k2, by show k2 + 11 ≤ 1000; omega, HC3.out.drew_'⟩, ?_, HX3.out.drew, ⟨own_drew HR3.out, ?_⟩, ⟨by simp, ?_⟩, ⟨_, HZ3.out.drew, rfl, fun i _ hl => (rep_no' hl).elim⟩⟩
    · intro p hp
      simp only [fixP, List.mem_cons, List.not_mem_nil, or_false] at hp
      rcases hp with rfl | rfl | rfl <;> simp
    · have hB := HB3.out
      exact ⟨hB.os, hB.tape, hB.output, hB.size, fun i hi _ => hB.block i hi⟩
    · intro X Y q hg hq h
      exact own_any h hg (fun i e => by have := Option.some.inj e; omega)
    · intro q hq
      simp only [List.mem_cons, List.not_mem_nil, or_false] at hq
      have h3 := HZ3.out.1
      rw [hq]; exact h3
def planA : List (Option Nat × Kd) := [(some 11, .agg), (some 12, .ptr), (some 13, .row [0, 10, 15, 20, 620, 10000, -1, 10001]), (some 14, .ptr), (some 15, .num 0 23), (some 16, .num 0 2), (some 17, .num 6 8), (some 18, .pre [0, 10, 15, 20, 620, 10000, -1, 10001]), (some 19, .any), (some 20, .ptr), (some 21, .row [-500, 77, 2000, -501, 2001]), (some 22, .ptr), (some 23, .num 0 23), (some 24, .num 0 2), (some 25, .num 3 5), (some 26, .pre [-500, 77, 2000, -501, 2001]), (some 27, .any), (some 28, .rd), (none, .agg), (none, .rd)]
def fixA (g bb br b2 : Nat) : List (Nat × Value) := [(4, .pointer (some ⟨g, 0, none⟩)), (5, .pointer (some ⟨bb, 0, none⟩)), (2, .pointer (some ⟨br, 0, none⟩)), (3, .pointer (some ⟨b2, 0, none⟩))]
theorem planA_ok (g bb br b2 : Nat) : planB 29 ((fixA g bb br b2).map (·.1)) planA = true := by kernel_rfl
def DrawAPost (w : World) (e : Ending) (w' : World) : Prop := ∃ (gi : Int) (gn : ByteArray) (gz : Int) (gR : Option Addr) (gm gc : Nat) (l : List (Int × Int)) (x y : Int), e = .returned (.tuple #[.agg #[.int .i64 gi, .string gn, .int .i64 gz, .slice gR gm gc], .agg #[.int .i64 x, .int .i64 y]]) ∧ DrawG w w' gn gR gm gc l
set_option maxRecDepth 100000 in
set_option maxHeartbeats 12800000 in
theorem draw_add (A : Option Addr) (n c : Nat) (w : World) (h : CodeRow w.heap.size A n w) : Calls Try.prog 6 #[.slice A n c] w (DrawAPost w) := by
  obtain ⟨W1, hW1⟩ : ∃ W, W = ((w.alloc (.cells #[.int .i64 0, .string ⟨#[]⟩, .int .i64 0, .slice none 0 0] 26)).alloc (.cells #[.int .i64 0, .int .i64 0] 28)).alloc (.cells #[.slice A n c, .int .i64 0, .int .u64 0] 63) := ⟨_, rfl⟩
  have HS1 : Hid (W1.heap.size = w.heap.size + 3) := by rw [hW1]; exact Lib.hid (by simp)
  have HB1 : Hid (Below w.heap.size w W1) := by rw [hW1]; exact Lib.hid ((((Below.refl w.heap.size w).alloc (Nat.le_refl _) _).alloc (by simp) _).alloc (by simp; omega) _)
  have HZ1 : Hid (Has W1 w.heap.size [.int .i64 0, .string ⟨#[]⟩, .int .i64 0, .slice none 0 0]) := by rw [hW1]; exact Lib.hid ((((by simpa using Has.new w #[.int .i64 0, .string ⟨#[]⟩, .int .i64 0, .slice none 0 0] 26 : Has (w.alloc (.cells #[.int .i64 0, .string ⟨#[]⟩, .int .i64 0, .slice none 0 0] 26)) w.heap.size [.int .i64 0, .string ⟨#[]⟩, .int .i64 0, .slice none 0 0])).alloc _).alloc _)
  have HY1 : Hid (Has W1 (w.heap.size + 1) [.int .i64 0, .int .i64 0]) := by rw [hW1]; exact Lib.hid ((by simpa using Has.new (w.alloc (.cells #[.int .i64 0, .string ⟨#[]⟩, .int .i64 0, .slice none 0 0] 26)) #[.int .i64 0, .int .i64 0] 28 : Has ((w.alloc (.cells #[.int .i64 0, .string ⟨#[]⟩, .int .i64 0, .slice none 0 0] 26)).alloc (.cells #[.int .i64 0, .int .i64 0] 28)) (w.heap.size + 1) [.int .i64 0, .int .i64 0]).alloc _)
  have HC1 : Hid (Cur w.heap.size A n c (w.heap.size + 2) 0 W1) := by
    have h1 := cur_new ((w.alloc (.cells #[.int .i64 0, .string ⟨#[]⟩, .int .i64 0, .slice none 0 0] 26)).alloc (.cells #[.int .i64 0, .int .i64 0] 28)) A n c 63 (h.below (B' := ((w.alloc (.cells #[.int .i64 0, .string ⟨#[]⟩, .int .i64 0, .slice none 0 0] 26)).alloc (.cells #[.int .i64 0, .int .i64 0] 28)).heap.size) (((Below.refl w.heap.size w).alloc (Nat.le_refl _) _).alloc (by simp) _) (by simp <;> omega))
    rw [← hW1] at h1
    have hsz : ((w.alloc (.cells #[.int .i64 0, .string ⟨#[]⟩, .int .i64 0, .slice none 0 0] 26)).alloc (.cells #[.int .i64 0, .int .i64 0] 28)).heap.size = w.heap.size + 2 := by simp
    rw [hsz] at h1
    exact Lib.hid (cur_low' h1 (h.below HB1.out (Nat.le_refl _)) (by omega))
  have HE1 := Lib.hid hW1
  clear h hW1
  go_enter Try.func6, Try.ntmps6
  go_upto_region 2 with fail
  rw [← HE1.out]
  go_wp2_with fail
  refine (gauge_any _ _ _ _ _ _ _ _ HC1.out (by omega)).mono ?_
  rintro e w2 ⟨gi, gn, gz, gR, gm, gc, l, k2, hll, hgm, hgn, hk2, rfl, hrow, hc, hg⟩
  have HR2 : Hid (GRow (w.heap.size + 3) l (.slice gR gm gc) w2) := by rw [← HS1.out]; exact Lib.hid hrow
  have HC2 := Lib.hid hc
  have HB2 := Lib.hid (below_of HB1.out hg HB1.out.size (by omega))
  have HZ2 := Lib.hid (has_grown HZ1.out hg (fun e => by have := Option.some.inj e; omega))
  have HY2 := Lib.hid (has_grown HY1.out hg (fun e => by have := Option.some.inj e; omega))
  have hz2 := HZ2.out.1
  have hc2 := HC2.out.lt
  have HLL := Lib.hid hll
  clear hc hg HC1 HB1 HZ1 HE1 hrow hll HS1
  obtain ⟨W3, hW3⟩ : ∃ W, W = w2.alloc (.cells #[.int .i64 gi, .string gn, .int .i64 gz, .slice gR gm gc] 26) := ⟨_, rfl⟩
  have HX3 : Hid (Has W3 w2.heap.size [.int .i64 gi, .string gn, .int .i64 gz, .slice gR gm gc]) := by rw [hW3]; exact Lib.hid (by simpa using Has.new w2 #[.int .i64 gi, .string gn, .int .i64 gz, .slice gR gm gc] 26)
  have HC3 : Hid (Cur w.heap.size A n c (w.heap.size + 2) k2 W3) := by rw [hW3]; exact Lib.hid (HC2.out.alloc _)
  have HB3 : Hid (Below w.heap.size w W3) := by rw [hW3]; exact Lib.hid (HB2.out.alloc HB2.out.size _)
  have HZ3 : Hid (Has W3 w.heap.size [.int .i64 0, .string ⟨#[]⟩, .int .i64 0, .slice none 0 0]) := by rw [hW3]; exact Lib.hid (HZ2.out.alloc _)
  have HR3 : Hid (GRow (w.heap.size + 3) l (.slice gR gm gc) W3) := by rw [hW3]; exact Lib.hid (World.ownsRow.alloc HR2.out _)
  have HY3 : Hid (Has W3 (w.heap.size + 1) [.int .i64 0, .int .i64 0]) := by rw [hW3]; exact Lib.hid (HY2.out.alloc _)
  have HE3 := Lib.hid hW3
  clear hW3 HC2 HB2 HZ2 HR2
  go_upto_region 3 with fail
  rw [← HE3.out]
  have hbb : w2.heap.size ≠ w.heap.size + 2 := by omega
  have hbr : w.heap.size ≠ w.heap.size + 2 := by omega
  have hP := planA_ok (w.heap.size + 2) w2.heap.size w.heap.size (w.heap.size + 1)
  refine region_inv (by kernel_rfl) (by kernel_rfl) (Sv w.heap.size A n c (w.heap.size + 2) gi gn gz gR gm gc w 1000 29 (fixA (w.heap.size + 2) w2.heap.size w.heap.size (w.heap.size + 1)) planA w2.heap.size w.heap.size (fun X => GRow (w.heap.size + 3) l (.slice gR gm gc) X ∧ ∃ x y, Has X (w.heap.size + 1) [.int .i64 x, .int .i64 y]) [w.heap.size, w.heap.size + 1]) ?_ ?_ ?_
  · intro fuel listed a W hS i o ho hf hd
    have hi : i < 20 := (Array.getElem?_eq_some_iff.1 ho).1
    obtain rfl | rfl | rfl | rfl | rfl | rfl | rfl | rfl | rfl | rfl | rfl | rfl | rfl | rfl | rfl | rfl | rfl | rfl | rfl | rfl : i = 0 ∨ i = 1 ∨ i = 2 ∨ i = 3 ∨ i = 4 ∨ i = 5 ∨ i = 6 ∨ i = 7 ∨ i = 8 ∨ i = 9 ∨ i = 10 ∨ i = 11 ∨ i = 12 ∨ i = 13 ∨ i = 14 ∨ i = 15 ∨ i = 16 ∨ i = 17 ∨ i = 18 ∨ i = 19 := by omega
    · exact hS.load hP hbb hbr ho (d := 11) (t := 5) (by kernel_rfl) (by simp [fixA]) rfl
    · exact hS.move hP hbb hbr ho (d := 12) (t := 4) (by kernel_rfl) (by simp [fixA]) rfl
    · exact hS.build hP hbb hbr ho (d := 13) (xs := [0, 10, 15, 20, 620, 10000, -1, 10001]) (p := .buildSlice 44 8 #[(0, .const (.int .i64 0)), (1, .const (.int .i64 10)), (2, .const (.int .i64 15)), (3, .const (.int .i64 20)), (4, .const (.int .i64 620)), (5, .const (.int .i64 10000)), (6, .const (Value.int IntKind.i64 (-1))), (7, .const (.int .i64 10001))]) (by kernel_rfl) (fun o a W ho => by simp [execOp, ho, go_sem]) rfl
    · exact hS.move hP hbb hbr ho (d := 14) (t := 4) (by kernel_rfl) (by simp [fixA]) rfl
    · exact hS.pick hP hbb hbr ho (by omega) (d := 15) (t := 14) (ts := #[60, 3]) (by kernel_rfl) (j := 3) rfl (dep_of (j := 3) (by kernel_rfl) ho hd) rfl
    · exact hS.quo hP hbb hbr ho (d := 16) (t := 15) (by kernel_rfl) (j := 4) rfl (dep_of (j := 4) (by kernel_rfl) ho hd) rfl
    · exact hS.add hP hbb hbr ho (m := 6) (by omega) (d := 17) (t := 16) (by kernel_rfl) (j := 5) rfl (dep_of (j := 5) (by kernel_rfl) ho hd) rfl
    · exact hS.slice hP hbb hbr ho (m := 6) (xs := [0, 10, 15, 20, 620, 10000, -1, 10001]) (by omega) (by decide) (by decide) (d := 18) (t := 13) (s := 17) (by kernel_rfl) (j := 2) rfl (dep_of (j := 2) (by kernel_rfl) ho hd) (j' := 6) rfl (dep_of (j := 6) (by kernel_rfl) ho hd) rfl
    · exact hS.among hP hbb hbr ho (by omega) (xs := [0, 10, 15, 20, 620, 10000, -1, 10001]) (by decide) (d := 19) (t := 12) (s := 18) (ts := #[60, 44]) (by kernel_rfl) (j := 1) rfl (dep_of (j := 1) (by kernel_rfl) ho hd) (j' := 7) rfl (dep_of (j := 7) (by kernel_rfl) ho hd) rfl
    · exact hS.move hP hbb hbr ho (d := 20) (t := 4) (by kernel_rfl) (by simp [fixA]) rfl
    · exact hS.build hP hbb hbr ho (d := 21) (xs := [-500, 77, 2000, -501, 2001]) (p := .buildSlice 44 5 #[(0, .const (Value.int IntKind.i64 (-500))), (1, .const (.int .i64 77)), (2, .const (.int .i64 2000)), (3, .const (Value.int IntKind.i64 (-501))), (4, .const (.int .i64 2001))]) (by kernel_rfl) (fun o a W ho => by simp [execOp, ho, go_sem]) rfl
    · exact hS.move hP hbb hbr ho (d := 22) (t := 4) (by kernel_rfl) (by simp [fixA]) rfl
    · exact hS.pick hP hbb hbr ho (by omega) (d := 23) (t := 22) (ts := #[60, 3]) (by kernel_rfl) (j := 11) rfl (dep_of (j := 11) (by kernel_rfl) ho hd) rfl
    · exact hS.quo hP hbb hbr ho (d := 24) (t := 23) (by kernel_rfl) (j := 12) rfl (dep_of (j := 12) (by kernel_rfl) ho hd) rfl
    · exact hS.add hP hbb hbr ho (m := 3) (by omega) (d := 25) (t := 24) (by kernel_rfl) (j := 13) rfl (dep_of (j := 13) (by kernel_rfl) ho hd) rfl
    · exact hS.slice hP hbb hbr ho (m := 3) (xs := [-500, 77, 2000, -501, 2001]) (by omega) (by decide) (by decide) (d := 26) (t := 21) (s := 25) (by kernel_rfl) (j := 10) rfl (dep_of (j := 10) (by kernel_rfl) ho hd) (j' := 14) rfl (dep_of (j := 14) (by kernel_rfl) ho hd) rfl
    · exact hS.among hP hbb hbr ho (by omega) (xs := [-500, 77, 2000, -501, 2001]) (by decide) (d := 27) (t := 20) (s := 26) (ts := #[60, 44]) (by kernel_rfl) (j := 9) rfl (dep_of (j := 9) (by kernel_rfl) ho hd) (j' := 15) rfl (dep_of (j := 15) (by kernel_rfl) ho hd) rfl
    · exact hS.make hP hbb hbr ho (d := 28) (t := 19) (q := 27) (j := 8) (j' := 16) (by kernel_rfl) rfl (dep_of (j := 8) (by kernel_rfl) ho hd) rfl (dep_of (j := 16) (by kernel_rfl) ho hd) rfl
    · exact hS.store (by omega) hbr (Nat.le_refl _) (Nat.le_refl _) ho (t := 2) (s := 11) (by kernel_rfl) (by simp [fixA]) (j := 0) rfl (dep_of (j := 0) (by kernel_rfl) ho hd) rfl
    · exact hS.store2 (b2 := w.heap.size + 1) (by omega) (by omega) (by omega) (by omega) (by omega) ho (fun X h => h.2) (fun X Y h hg h2 => ⟨own_any h.1 hg (fun q e => by have := Option.some.inj e; omega), h2⟩) (by simp) (t := 3) (s := 28) (j := 17) (by kernel_rfl) (by simp [fixA]) rfl (dep_of (j := 17) (by kernel_rfl) ho hd) rfl
  · intro fuel listed a W hS hall
    obtain ⟨hRW, x, y, hY⟩ := hS.kept.1
    have y0 := hY.at_ 0 _ rfl
    have y1 := hY.at_ 1 _ rfl
    have eq2 := hS.fix (3, .pointer (some ⟨w.heap.size + 1, 0, none⟩)) (by simp [fixA])
    have eq2' : a.tmps[3]?.getD undef = .pointer (some ⟨w.heap.size + 1, 0, none⟩) := by simpa using eq2
    have ep := hS.fix (2, .pointer (some ⟨w.heap.size, 0, none⟩)) (by simp [fixA])
    have ep' : a.tmps[2]?.getD undef = .pointer (some ⟨w.heap.size, 0, none⟩) := by simpa using ep
    obtain ⟨cs, hcs, h7, hcv⟩ := hS.res
    obtain rfl := hcv 18 rfl (hall 18 (by decide))
    have r0 := hcs.at_ 0 _ rfl
    have r1 := hcs.at_ 1 _ rfl
    have r2 := hcs.at_ 2 _ rfl
    have r3 := hcs.at_ 3 _ rfl
    have HBw := Lib.hid (below_of (Below.refl w.heap.size w) hS.grown (Nat.le_refl _) (by omega))
    have HRW := Lib.hid (own_base hRW (show w.heap.size ≤ w.heap.size + 3 by omega))
    have hdf := hS.defers
    clear hS hall hcv h7 ep hRW hP
    go_wp2_with fail
    refine bodyPost_ret (v := .tuple #[.agg #[.int .i64 gi, .string gn, .int .i64 gz, .slice gR gm gc], .agg #[.int .i64 x, .int .i64 y]]) (by simp [results, Try.results6, go_sem, ep', eq2', y0, y1, r0, r1, r2, r3]) hdf ⟨gi, gn, gz, gR, gm, gc, l, x, y, rfl, HLL.out, hgm, hgn, HRW.out, HBw.out⟩
  · refine ⟨by simp, rfl, ?_, fun i d K hi hl => (rep_no' hl).elim, ⟨k2, by show k2 + 20 ≤ 1000; omega, HC3.out.drew_'⟩, ?_, HX3.out.drew, ⟨⟨own_drew HR3.out, 0, 0, HY3.out.drew⟩, ?_⟩, ⟨by simp, ?_⟩, ⟨_, HZ3.out.drew, rfl, fun i _ hl => (rep_no' hl).elim⟩⟩
    · intro p hp
      simp only [fixA, List.mem_cons, List.not_mem_nil, or_false] at hp
      rcases hp with rfl | rfl | rfl | rfl <;> simp
    · have hB := HB3.out
      exact ⟨hB.os, hB.tape, hB.output, hB.size, fun i hi _ => hB.block i hi⟩
    · intro X Y q hg hq h
      exact ⟨own_any h.1 hg (fun i e => by have := Option.some.inj e; omega), (by obtain ⟨x, y, hh⟩ := h.2; exact ⟨x, y, has_grown hh hg (fun e => by have := Option.some.inj e; omega)⟩)⟩
    · intro q hq
      simp only [List.mem_cons, List.not_mem_nil, or_false] at hq
      have h3 := HZ3.out.1
      have h5 := HY3.out.1
      rcases hq with rfl | rfl
      · exact h3
      · exact h5
def planH4 : List (Option Nat × Kd) := [(some 20, .agg), (some 21, .fld), (some 22, .val), (some 23, .ptr), (some 24, .fld), (some 25, .val), (some 26, .cnt), (some 27, .ix), (some 28, .el), (some 29, .el), (some 30, .any), (none, .agg), (some 3, .any)]
def fixH4 (g bb br : Nat) : List (Nat × Value) := [(4, .pointer (some ⟨g, 0, none⟩)), (5, .pointer (some ⟨bb, 0, none⟩)), (2, .pointer (some ⟨br, 0, none⟩))]
theorem planH4_ok (g bb br : Nat) : planB 35 ((fixH4 g bb br).map (·.1)) planH4 = true := by kernel_rfl
def planH5 : List (Option Nat × Kd) := [(some 31, .agg), (some 32, .ptr), (some 33, .row [0, 5, -1]), (some 34, .any), (none, .agg), (some 3, .any)]
def fixH5 (g bb br : Nat) : List (Nat × Value) := [(4, .pointer (some ⟨g, 0, none⟩)), (5, .pointer (some ⟨bb, 0, none⟩)), (2, .pointer (some ⟨br, 0, none⟩))]
theorem planH5_ok (g bb br : Nat) : planB 35 ((fixH5 g bb br).map (·.1)) planH5 = true := by kernel_rfl
def DrawHPost (w : World) (e : Ending) (w' : World) : Prop := ∃ (gi : Int) (gn : ByteArray) (gz : Int) (gR : Option Addr) (gm gc : Nat) (l : List (Int × Int)) (x : Int), e = .returned (.tuple #[.agg #[.int .i64 gi, .string gn, .int .i64 gz, .slice gR gm gc], .int .i64 x]) ∧ DrawG w w' gn gR gm gc l
set_option maxRecDepth 100000 in
set_option maxHeartbeats 12800000 in
theorem draw_height (A : Option Addr) (n c : Nat) (w : World) (h : CodeRow w.heap.size A n w) : Calls Try.prog 19 #[.slice A n c] w (DrawHPost w) := by
  obtain ⟨W1, hW1⟩ : ∃ W, W = (w.alloc (.cells #[.int .i64 0, .string ⟨#[]⟩, .int .i64 0, .slice none 0 0] 26)).alloc (.cells #[.slice A n c, .int .i64 0, .int .u64 0] 63) := ⟨_, rfl⟩
  have HS1 : Hid (W1.heap.size = w.heap.size + 2) := by rw [hW1]; exact Lib.hid (by simp)
  have HB1 : Hid (Below w.heap.size w W1) := by rw [hW1]; exact Lib.hid ((((Below.refl w.heap.size w).alloc (Nat.le_refl _) _)).alloc (by simp) _)
  have HZ1 : Hid (Has W1 w.heap.size [.int .i64 0, .string ⟨#[]⟩, .int .i64 0, .slice none 0 0]) := by rw [hW1]; exact Lib.hid (((by simpa using Has.new w #[.int .i64 0, .string ⟨#[]⟩, .int .i64 0, .slice none 0 0] 26 : Has (w.alloc (.cells #[.int .i64 0, .string ⟨#[]⟩, .int .i64 0, .slice none 0 0] 26)) w.heap.size [.int .i64 0, .string ⟨#[]⟩, .int .i64 0, .slice none 0 0])).alloc _)
  have HC1 : Hid (Cur w.heap.size A n c (w.heap.size + 1) 0 W1) := by
    have h1 := cur_new (w.alloc (.cells #[.int .i64 0, .string ⟨#[]⟩, .int .i64 0, .slice none 0 0] 26)) A n c 63 (h.below (B' := (w.alloc (.cells #[.int .i64 0, .string ⟨#[]⟩, .int .i64 0, .slice none 0 0] 26)).heap.size) (((Below.refl w.heap.size w).alloc (Nat.le_refl _) _)) (by simp <;> omega))
    rw [← hW1] at h1
    have hsz : (w.alloc (.cells #[.int .i64 0, .string ⟨#[]⟩, .int .i64 0, .slice none 0 0] 26)).heap.size = w.heap.size + 1 := by simp
    rw [hsz] at h1
    exact Lib.hid (cur_low' h1 (h.below HB1.out (Nat.le_refl _)) (by omega))
  have HE1 := Lib.hid hW1
  clear h hW1
  go_enter Try.func19, Try.ntmps19
  go_upto_region 2 with fail
  rw [← HE1.out]
  go_wp2_with fail
  refine (gauge_any _ _ _ _ _ _ _ _ HC1.out (by omega)).mono ?_
  rintro e w2 ⟨gi, gn, gz, gR, gm, gc, l, k2, hll, hgm, hgn, hk2, rfl, hrow, hc, hg⟩
  have HR2 : Hid (GRow (w.heap.size + 2) l (.slice gR gm gc) w2) := by rw [← HS1.out]; exact Lib.hid hrow
  have HC2 := Lib.hid hc
  have HB2 := Lib.hid (below_of HB1.out hg HB1.out.size (by omega))
  have HZ2 := Lib.hid (has_grown HZ1.out hg (fun e => by have := Option.some.inj e; omega))
  have hz2 := HZ2.out.1
  have hc2 := HC2.out.lt
  have HLL := Lib.hid hll
  clear hc hg HC1 HB1 HZ1 HE1 hrow hll HS1
  obtain ⟨W3, hW3⟩ : ∃ W, W = w2.alloc (.cells #[.int .i64 gi, .string gn, .int .i64 gz, .slice gR gm gc] 26) := ⟨_, rfl⟩
  have HX3 : Hid (Has W3 w2.heap.size [.int .i64 gi, .string gn, .int .i64 gz, .slice gR gm gc]) := by rw [hW3]; exact Lib.hid (by simpa using Has.new w2 #[.int .i64 gi, .string gn, .int .i64 gz, .slice gR gm gc] 26)
  have HC3 : Hid (Cur w.heap.size A n c (w.heap.size + 1) k2 W3) := by rw [hW3]; exact Lib.hid (HC2.out.alloc _)
  have HB3 : Hid (Below w.heap.size w W3) := by rw [hW3]; exact Lib.hid (HB2.out.alloc HB2.out.size _)
  have HZ3 : Hid (Has W3 w.heap.size [.int .i64 0, .string ⟨#[]⟩, .int .i64 0, .slice none 0 0]) := by rw [hW3]; exact Lib.hid (HZ2.out.alloc _)
  have HR3 : Hid (GRow (w.heap.size + 2) l (.slice gR gm gc) W3) := by rw [hW3]; exact Lib.hid (World.ownsRow.alloc HR2.out _)
  have HE3 := Lib.hid hW3
  clear hW3 HC2 HB2 HZ2 HR2
  have HB3' := HB3
  have b3 := HX3.out.at_ 3 _ rfl
  go_upto_region 3 with fail
  rw [← HE3.out]
  rcases Nat.eq_zero_or_pos gm with h0 | h0
  · have hi0 : ¬ (0 : Int) < gm := by omega
    go_upto_region 5 with fail
    have hbb : w2.heap.size ≠ w.heap.size + 1 := by omega
    have hbr : w.heap.size ≠ w.heap.size + 1 := by omega
    have hP := planH5_ok (w.heap.size + 1) w2.heap.size w.heap.size
    refine region_inv (by kernel_rfl) (by kernel_rfl) (Sv w.heap.size A n c (w.heap.size + 1) gi gn gz gR gm gc w 1000 35 (fixH5 (w.heap.size + 1) w2.heap.size w.heap.size) planH5 w2.heap.size w.heap.size (fun X => GRow (w.heap.size + 2) l (.slice gR gm gc) X) [w.heap.size]) ?_ ?_ ?_
    · intro fuel listed a W hS i o ho hf hd
      have hi : i < 6 := (Array.getElem?_eq_some_iff.1 ho).1
      obtain rfl | rfl | rfl | rfl | rfl | rfl : i = 0 ∨ i = 1 ∨ i = 2 ∨ i = 3 ∨ i = 4 ∨ i = 5 := by omega
      · exact hS.load hP hbb hbr ho (d := 31) (t := 5) (by kernel_rfl) (by simp [fixH5]) rfl
      · exact hS.move hP hbb hbr ho (d := 32) (t := 4) (by kernel_rfl) (by simp [fixH5]) rfl
      · exact hS.build hP hbb hbr ho (d := 33) (xs := [0, 5, -1]) (p := .buildSlice 44 3 #[(0, .const (.int .i64 0)), (1, .const (.int .i64 5)), (2, .const (Value.int IntKind.i64 (-1)))]) (by kernel_rfl) (fun o a W ho => by simp [execOp, ho, go_sem]) rfl
      · exact hS.amongR (by omega) hP hbb hbr ho (xs := [0, 5, -1]) (by decide) (by decide) (d := 34) (t := 32) (s := 33) (ts := #[60, 44]) (by kernel_rfl) (j := 1) rfl (dep_of (j := 1) (by kernel_rfl) ho hd) (j' := 2) rfl (dep_of (j := 2) (by kernel_rfl) ho hd) rfl
      · exact hS.store (by omega) hbr (Nat.le_refl _) (Nat.le_refl _) ho (t := 2) (s := 31) (by kernel_rfl) (by simp [fixH5]) (j := 0) rfl (dep_of (j := 0) (by kernel_rfl) ho hd) rfl
      · exact hS.assign hP hbb hbr ho (d := 3) (t := 34) (by kernel_rfl) (j := 3) rfl (dep_of (j := 3) (by kernel_rfl) ho hd) rfl
    · intro fuel listed a W hS hall
      have hRW := hS.kept.1
      obtain ⟨x, ex⟩ := hS.slots 5 3 .any rfl (hall 5 (by decide))
      have ex' : a.tmps[3]?.getD undef = .int .i64 x := by simpa using ex
      have ep := hS.fix (2, .pointer (some ⟨w.heap.size, 0, none⟩)) (by simp [fixH5])
      have ep' : a.tmps[2]?.getD undef = .pointer (some ⟨w.heap.size, 0, none⟩) := by simpa using ep
      obtain ⟨cs, hcs, h7, hcv⟩ := hS.res
      obtain rfl := hcv 4 rfl (hall 4 (by decide))
      have r0 := hcs.at_ 0 _ rfl
      have r1 := hcs.at_ 1 _ rfl
      have r2 := hcs.at_ 2 _ rfl
      have r3 := hcs.at_ 3 _ rfl
      have HBw := Lib.hid (below_of (Below.refl w.heap.size w) hS.grown (Nat.le_refl _) (by omega))
      have HRW := Lib.hid (own_base hRW (show w.heap.size ≤ w.heap.size + 2 by omega))
      have hdf := hS.defers
      clear hS hall hcv h7 ep hRW hP
      go_wp2_with fail
      refine bodyPost_ret (v := .tuple #[.agg #[.int .i64 gi, .string gn, .int .i64 gz, .slice gR gm gc], .int .i64 x]) (by simp [results, Try.results19, go_sem, ep', ex', r0, r1, r2, r3]) hdf ⟨gi, gn, gz, gR, gm, gc, l, x, rfl, HLL.out, hgm, hgn, HRW.out, HBw.out⟩
    · refine ⟨by simp, rfl, ?_, fun i d K hi hl => (rep_no' hl).elim, ⟨k2, by show k2 + 6 ≤ 1000; omega, HC3.out.drew_'⟩, ?_, HX3.out.drew, ⟨own_drew HR3.out, ?_⟩, ⟨by simp, ?_⟩, ⟨_, HZ3.out.drew, rfl, fun i _ hl => (rep_no' hl).elim⟩⟩
      · intro p hp
        simp only [fixH5, List.mem_cons, List.not_mem_nil, or_false] at hp
        rcases hp with rfl | rfl | rfl <;> simp
      · have hB := HB3.out
        exact ⟨hB.os, hB.tape, hB.output, hB.size, fun i hi _ => hB.block i hi⟩
      · intro X Y q hg hq h
        exact own_any h hg (fun i e => by have := Option.some.inj e; omega)
      · intro q hq
        simp only [List.mem_cons, List.not_mem_nil, or_false] at hq
        have h3 := HZ3.out.1
        rw [hq]; exact h3
  · have hi0 : (0 : Int) < gm := by omega
    have HROW : Hid (∀ X, (fun X => GRow (w.heap.size + 2) l (.slice gR gm gc) X) X → ∀ gb r : Nat, gR = some ⟨gb, 0, none⟩ → r < gm → ∃ y, X.cell? ⟨gb, r * 2, none⟩ = some (.int .i64 y)) := Lib.hid fun X hX gb r hgR hr => by
      obtain ⟨gb', x, y, hA, _, _, _, c0, _⟩ := (grow_own hX HLL.out).2 r hr
      rw [hgR] at hA
      injection hA with hA
      injection hA with hA
      subst hA
      exact ⟨x, c0⟩
    obtain ⟨gb, _, _, hGR, _⟩ := (grow_own HR3.out HLL.out).2 0 h0
    have HGR := Lib.hid hGR
    clear hGR
    go_wp2_with fail
    refine (one_any _ _ _ _ _ _ 4 _ HC3.out (by omega) (by decide) (by decide)).mono ?_
    rintro e w5 ⟨b, rfl, hc, hg⟩
    have HC5 := Lib.hid hc
    have HX5 := Lib.hid (has_grown HX3.out hg (fun e => by have := Option.some.inj e; omega))
    have HZ5 := Lib.hid (has_grown HZ3.out hg (fun e => by have := Option.some.inj e; omega))
    have HR5 : Hid (GRow (w.heap.size + 2) l (.slice gR gm gc) w5) := Lib.hid (own_any HR3.out hg (fun i e => by have := Option.some.inj e; omega))
    have HB5 := Lib.hid (below_of HB3.out hg HB3.out.size (by omega))
    clear hc hg HC3 HX3 HZ3 HR3 HB3 HB3' HE3
    rcases b with _ | _
    · go_upto_region 4 with fail
      have hGR := HGR.out
      have hbb : w2.heap.size ≠ w.heap.size + 1 := by omega
      have hbr : w.heap.size ≠ w.heap.size + 1 := by omega
      have hP := planH4_ok (w.heap.size + 1) w2.heap.size w.heap.size
      refine region_inv (by kernel_rfl) (by kernel_rfl) (Sv w.heap.size A n c (w.heap.size + 1) gi gn gz gR gm gc w 1000 35 (fixH4 (w.heap.size + 1) w2.heap.size w.heap.size) planH4 w2.heap.size w.heap.size (fun X => GRow (w.heap.size + 2) l (.slice gR gm gc) X) [w.heap.size]) ?_ ?_ ?_
      · intro fuel listed a W hS i o ho hf hd
        have hi : i < 13 := (Array.getElem?_eq_some_iff.1 ho).1
        obtain rfl | rfl | rfl | rfl | rfl | rfl | rfl | rfl | rfl | rfl | rfl | rfl | rfl : i = 0 ∨ i = 1 ∨ i = 2 ∨ i = 3 ∨ i = 4 ∨ i = 5 ∨ i = 6 ∨ i = 7 ∨ i = 8 ∨ i = 9 ∨ i = 10 ∨ i = 11 ∨ i = 12 := by omega
        · exact hS.load hP hbb hbr ho (d := 20) (t := 5) (by kernel_rfl) (by simp [fixH4]) rfl
        · exact hS.field hP hbb hbr ho (d := 21) (t := 5) (by kernel_rfl) (by simp [fixH4]) rfl
        · exact hS.loadV hP hbb hbr ho (d := 22) (t := 21) (by kernel_rfl) (j := 1) rfl (dep_of (j := 1) (by kernel_rfl) ho hd) rfl
        · exact hS.move hP hbb hbr ho (d := 23) (t := 4) (by kernel_rfl) (by simp [fixH4]) rfl
        · exact hS.field hP hbb hbr ho (d := 24) (t := 5) (by kernel_rfl) (by simp [fixH4]) rfl
        · exact hS.loadV hP hbb hbr ho (d := 25) (t := 24) (by kernel_rfl) (j := 4) rfl (dep_of (j := 4) (by kernel_rfl) ho hd) rfl
        · exact hS.len hP hbb hbr ho (d := 26) (t := 25) (by kernel_rfl) (j := 5) rfl (dep_of (j := 5) (by kernel_rfl) ho hd) rfl
        · exact hS.pickV (by omega) h0 (by omega) hP hbb hbr ho (d := 27) (t := 23) (s := 26) (ts := #[60, 3]) (by kernel_rfl) (j := 3) rfl (dep_of (j := 3) (by kernel_rfl) ho hd) (j' := 6) rfl (dep_of (j := 6) (by kernel_rfl) ho hd) rfl
        · exact hS.index hGR hP hbb hbr ho (d := 28) (t := 22) (s := 27) (by kernel_rfl) (j := 2) rfl (dep_of (j := 2) (by kernel_rfl) ho hd) (j' := 7) rfl (dep_of (j := 7) (by kernel_rfl) ho hd) rfl
        · exact hS.field0 hP hbb hbr ho (d := 29) (t := 28) (by kernel_rfl) (j := 8) rfl (dep_of (j := 8) (by kernel_rfl) ho hd) rfl
        · exact hS.loadI HROW.out hP hbb hbr ho (d := 30) (t := 29) (by kernel_rfl) (j := 9) rfl (dep_of (j := 9) (by kernel_rfl) ho hd) rfl
        · exact hS.store (by omega) hbr (Nat.le_refl _) (Nat.le_refl _) ho (t := 2) (s := 20) (by kernel_rfl) (by simp [fixH4]) (j := 0) rfl (dep_of (j := 0) (by kernel_rfl) ho hd) rfl
        · exact hS.assign hP hbb hbr ho (d := 3) (t := 30) (by kernel_rfl) (j := 10) rfl (dep_of (j := 10) (by kernel_rfl) ho hd) rfl
      · intro fuel listed a W hS hall
        have hRW := hS.kept.1
        obtain ⟨x, ex⟩ := hS.slots 12 3 .any rfl (hall 12 (by decide))
        have ex' : a.tmps[3]?.getD undef = .int .i64 x := by simpa using ex
        have ep := hS.fix (2, .pointer (some ⟨w.heap.size, 0, none⟩)) (by simp [fixH4])
        have ep' : a.tmps[2]?.getD undef = .pointer (some ⟨w.heap.size, 0, none⟩) := by simpa using ep
        obtain ⟨cs, hcs, h7, hcv⟩ := hS.res
        obtain rfl := hcv 11 rfl (hall 11 (by decide))
        have r0 := hcs.at_ 0 _ rfl
        have r1 := hcs.at_ 1 _ rfl
        have r2 := hcs.at_ 2 _ rfl
        have r3 := hcs.at_ 3 _ rfl
        have HBw := Lib.hid (below_of (Below.refl w.heap.size w) hS.grown (Nat.le_refl _) (by omega))
        have HRW := Lib.hid (own_base hRW (show w.heap.size ≤ w.heap.size + 2 by omega))
        have hdf := hS.defers
        clear hS hall hcv h7 ep hRW hP
        go_wp2_with fail
        refine bodyPost_ret (v := .tuple #[.agg #[.int .i64 gi, .string gn, .int .i64 gz, .slice gR gm gc], .int .i64 x]) (by simp [results, Try.results19, go_sem, ep', ex', r0, r1, r2, r3]) hdf ⟨gi, gn, gz, gR, gm, gc, l, x, rfl, HLL.out, hgm, hgn, HRW.out, HBw.out⟩
      · refine ⟨by simp, rfl, ?_, fun i d K hi hl => (rep_no' hl).elim, ⟨k2 + 1, by show k2 + 1 + 13 ≤ 1000; omega, HC5.out.drew_'⟩, ?_, HX5.out.drew, ⟨own_drew HR5.out, ?_⟩, ⟨by simp, ?_⟩, ⟨_, HZ5.out.drew, rfl, fun i _ hl => (rep_no' hl).elim⟩⟩
        · intro p hp
          simp only [fixH4, List.mem_cons, List.not_mem_nil, or_false] at hp
          rcases hp with rfl | rfl | rfl <;> simp
        · have hB := HB5.out
          exact ⟨hB.os, hB.tape, hB.output, hB.size, fun i hi _ => hB.block i hi⟩
        · intro X Y q hg hq h
          exact own_any h hg (fun i e => by have := Option.some.inj e; omega)
        · intro q hq
          simp only [List.mem_cons, List.not_mem_nil, or_false] at hq
          have h3 := HZ5.out.1
          rw [hq]; exact h3
    · go_upto_region 5 with fail
      have hbb : w2.heap.size ≠ w.heap.size + 1 := by omega
      have hbr : w.heap.size ≠ w.heap.size + 1 := by omega
      have hP := planH5_ok (w.heap.size + 1) w2.heap.size w.heap.size
      refine region_inv (by kernel_rfl) (by kernel_rfl) (Sv w.heap.size A n c (w.heap.size + 1) gi gn gz gR gm gc w 1000 35 (fixH5 (w.heap.size + 1) w2.heap.size w.heap.size) planH5 w2.heap.size w.heap.size (fun X => GRow (w.heap.size + 2) l (.slice gR gm gc) X) [w.heap.size]) ?_ ?_ ?_
      · intro fuel listed a W hS i o ho hf hd
        have hi : i < 6 := (Array.getElem?_eq_some_iff.1 ho).1
        obtain rfl | rfl | rfl | rfl | rfl | rfl : i = 0 ∨ i = 1 ∨ i = 2 ∨ i = 3 ∨ i = 4 ∨ i = 5 := by omega
        · exact hS.load hP hbb hbr ho (d := 31) (t := 5) (by kernel_rfl) (by simp [fixH5]) rfl
        · exact hS.move hP hbb hbr ho (d := 32) (t := 4) (by kernel_rfl) (by simp [fixH5]) rfl
        · exact hS.build hP hbb hbr ho (d := 33) (xs := [0, 5, -1]) (p := .buildSlice 44 3 #[(0, .const (.int .i64 0)), (1, .const (.int .i64 5)), (2, .const (Value.int IntKind.i64 (-1)))]) (by kernel_rfl) (fun o a W ho => by simp [execOp, ho, go_sem]) rfl
        · exact hS.amongR (by omega) hP hbb hbr ho (xs := [0, 5, -1]) (by decide) (by decide) (d := 34) (t := 32) (s := 33) (ts := #[60, 44]) (by kernel_rfl) (j := 1) rfl (dep_of (j := 1) (by kernel_rfl) ho hd) (j' := 2) rfl (dep_of (j := 2) (by kernel_rfl) ho hd) rfl
        · exact hS.store (by omega) hbr (Nat.le_refl _) (Nat.le_refl _) ho (t := 2) (s := 31) (by kernel_rfl) (by simp [fixH5]) (j := 0) rfl (dep_of (j := 0) (by kernel_rfl) ho hd) rfl
        · exact hS.assign hP hbb hbr ho (d := 3) (t := 34) (by kernel_rfl) (j := 3) rfl (dep_of (j := 3) (by kernel_rfl) ho hd) rfl
      · intro fuel listed a W hS hall
        have hRW := hS.kept.1
        obtain ⟨x, ex⟩ := hS.slots 5 3 .any rfl (hall 5 (by decide))
        have ex' : a.tmps[3]?.getD undef = .int .i64 x := by simpa using ex
        have ep := hS.fix (2, .pointer (some ⟨w.heap.size, 0, none⟩)) (by simp [fixH5])
        have ep' : a.tmps[2]?.getD undef = .pointer (some ⟨w.heap.size, 0, none⟩) := by simpa using ep
        obtain ⟨cs, hcs, h7, hcv⟩ := hS.res
        obtain rfl := hcv 4 rfl (hall 4 (by decide))
        have r0 := hcs.at_ 0 _ rfl
        have r1 := hcs.at_ 1 _ rfl
        have r2 := hcs.at_ 2 _ rfl
        have r3 := hcs.at_ 3 _ rfl
        have HBw := Lib.hid (below_of (Below.refl w.heap.size w) hS.grown (Nat.le_refl _) (by omega))
        have HRW := Lib.hid (own_base hRW (show w.heap.size ≤ w.heap.size + 2 by omega))
        have hdf := hS.defers
        clear hS hall hcv h7 ep hRW hP
        go_wp2_with fail
        refine bodyPost_ret (v := .tuple #[.agg #[.int .i64 gi, .string gn, .int .i64 gz, .slice gR gm gc], .int .i64 x]) (by simp [results, Try.results19, go_sem, ep', ex', r0, r1, r2, r3]) hdf ⟨gi, gn, gz, gR, gm, gc, l, x, rfl, HLL.out, hgm, hgn, HRW.out, HBw.out⟩
      · refine ⟨by simp, rfl, ?_, fun i d K hi hl => (rep_no' hl).elim, ⟨k2 + 1, by show k2 + 1 + 6 ≤ 1000; omega, HC5.out.drew_'⟩, ?_, HX5.out.drew, ⟨own_drew HR5.out, ?_⟩, ⟨by simp, ?_⟩, ⟨_, HZ5.out.drew, rfl, fun i _ hl => (rep_no' hl).elim⟩⟩
        · intro p hp
          simp only [fixH5, List.mem_cons, List.not_mem_nil, or_false] at hp
          rcases hp with rfl | rfl | rfl <;> simp
        · have hB := HB5.out
          exact ⟨hB.os, hB.tape, hB.output, hB.size, fun i hi _ => hB.block i hi⟩
        · intro X Y q hg hq h
          exact own_any h hg (fun i e => by have := Option.some.inj e; omega)
        · intro q hq
          simp only [List.mem_cons, List.not_mem_nil, or_false] at hq
          have h3 := HZ5.out.1
          rw [hq]; exact h3
end Go.Proofs.Ytlggcfeclbcfaaa
