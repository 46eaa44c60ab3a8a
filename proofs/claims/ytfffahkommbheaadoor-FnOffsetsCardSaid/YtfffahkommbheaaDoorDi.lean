/-
  Draws of a craft and numbers: contracts of spec.DrawSounderAt, DrawSecondsFor, DrawIsCraft, DrawCraftText over this translation. Conditions: stated at each theorem.
-/
import Derived.Test.YtfffahkommbheaaDoorDh
namespace Go.Proofs.YtfffahkommbheaaDoor
open Go.RowKit Go.Sort

theorem cur_low {B B' : Nat} {A : Option Addr} {n c g k : Nat} {W : World} (h : Cur B A n c g k W) (hr : CodeRow B' A n W) (hB : B' ≤ B) : Cur B' A n c g k W :=
  { h with row := hr, old := Nat.le_trans hB h.old }
theorem Cur.drew_ {B : Nat} {A : Option Addr} {n c g k : Nat} {w : World} (h : Cur B A n c g k w) : Cur B A n c g k w.drew := ⟨h.code, h.pos, h.seed, h.free1, h.free2, h.row, h.old, h.lt⟩
theorem rep_no {m i : Nat} (h : (Array.replicate m false).getD i false = true) : False := by
  rw [Array.getD_eq_getD_getElem?] at h
  by_cases hi : i < m <;> simp [hi] at h
theorem int_some {o : Option Value} {x : Value} (h : o.getD undef = x) (hx : x ≠ undef) : o = some x := by
  cases o with
  | none => exact absurd h.symm hx
  | some y => exact congrArg some h
def planS : List (Option Nat × Kd) := [(some 13, .agg), (some 14, .ptr), (some 15, .row [0, 700, 5000, 10000, -1, 10001]), (some 16, .ptr), (some 17, .num 0 23), (some 18, .num 0 2), (some 19, .num 4 6), (some 20, .pre [0, 700, 5000, 10000, -1, 10001]), (some 21, .any), (some 22, .ptr), (some 23, .row [0, 700, 5000, 10000, -1, 10001]), (some 24, .ptr), (some 25, .num 0 23), (some 26, .num 0 2), (some 27, .num 4 6), (some 28, .pre [0, 700, 5000, 10000, -1, 10001]), (some 29, .any), (some 30, .ptr), (some 31, .row [0, 1, 2, 3, -1, 4]), (some 32, .ptr), (some 33, .num 0 23), (some 34, .num 0 2), (some 35, .num 4 6), (some 36, .pre [0, 1, 2, 3, -1, 4]), (some 37, .any), (none, .agg), (some 3, .any), (some 4, .any), (some 5, .any)]
def fixS (g bb br : Nat) : List (Nat × Value) := [(6, .pointer (some ⟨g, 0, none⟩)), (7, .pointer (some ⟨bb, 0, none⟩)), (2, .pointer (some ⟨br, 0, none⟩))]
theorem planS_ok (g bb br : Nat) : planB 38 ((fixS g bb br).map (·.1)) planS = true := by kernel_rfl
def DrawSPost (w : World) (e : Ending) (w' : World) : Prop := ∃ (u : CC) (x y h : Int), e = .returned (.tuple #[.agg #[.int .i64 u.id, .string u.nm, .int .i64 u.dr, .int .i64 u.ah, .int .i64 u.be, .int .i64 u.sp, .int .i64 u.fu], .int .i64 x, .int .i64 y, .int .i64 h]) ∧ u.nm.size ≤ 11 ∧ Below w.heap.size w w'
set_option maxRecDepth 100000 in
set_option maxHeartbeats 12800000 in
theorem draw_sound (A : Option Addr) (n c : Nat) (w : World) (h : CodeRow w.heap.size A n w) : Calls Tryd.prog 6 #[.slice A n c] w (DrawSPost w) := by
  obtain ⟨W1, hW1⟩ : ∃ W, W = (w.alloc (.cells #[.int .i64 0, .string ⟨#[]⟩, .int .i64 0, .int .i64 0, .int .i64 0, .int .i64 0, .int .i64 0] 25)).alloc (.cells #[.slice A n c, .int .i64 0, .int .u64 0] 45) := ⟨_, rfl⟩
  have HB1 : Hid (Below w.heap.size w W1) := by rw [hW1]; exact Lib.hid (((Below.refl _ _).alloc (Nat.le_refl _) _).alloc (by simp) _)
  have HZ1 : Hid (Has W1 w.heap.size [.int .i64 0, .string ⟨#[]⟩, .int .i64 0, .int .i64 0, .int .i64 0, .int .i64 0, .int .i64 0]) := by rw [hW1]; exact Lib.hid ((by simpa using Has.new w #[.int .i64 0, .string ⟨#[]⟩, .int .i64 0, .int .i64 0, .int .i64 0, .int .i64 0, .int .i64 0] 25 : Has (w.alloc (.cells #[.int .i64 0, .string ⟨#[]⟩, .int .i64 0, .int .i64 0, .int .i64 0, .int .i64 0, .int .i64 0] 25)) w.heap.size [.int .i64 0, .string ⟨#[]⟩, .int .i64 0, .int .i64 0, .int .i64 0, .int .i64 0, .int .i64 0]).alloc _)
  have HC1 : Hid (Cur w.heap.size A n c (w.heap.size + 1) 0 W1) := by
    have h1 := cur_new (w.alloc (.cells #[.int .i64 0, .string ⟨#[]⟩, .int .i64 0, .int .i64 0, .int .i64 0, .int .i64 0, .int .i64 0] 25)) A n c 45 (h.below ((Below.refl w.heap.size w).alloc (Nat.le_refl _) _) (by simp))
    rw [← hW1, World.size_alloc] at h1
    exact Lib.hid (cur_low h1 (h.below HB1.out (Nat.le_refl _)) (by omega))
  have HE1 := Lib.hid hW1
  clear h hW1
  go_enter Tryd.func6, Tryd.ntmps6
  go_upto_region 2 with fail
  rw [← HE1.out]
  go_wp2_with fail
  refine (craft_any _ _ _ _ _ _ _ _ HC1.out (by omega)).mono ?_
  rintro e w2 ⟨v, k2, hk1, hk2, hvn, rfl, hc, hg⟩
  have HC2 := Lib.hid hc
  have HB2 := Lib.hid (below_of HB1.out hg HB1.out.size (Nat.le_succ _))
  have HZ2 := Lib.hid (has_grown HZ1.out hg (fun e => by have := Option.some.inj e; omega))
  have hz2 := HZ2.out.1
  have hc2 := HC2.out.lt
  clear hc hg HC1 HB1 HZ1 HE1
  obtain ⟨W3, hW3⟩ : ∃ W, W = w2.alloc (.cells #[.int .i64 v.id, .string v.nm, .int .i64 v.dr, .int .i64 v.ah, .int .i64 v.be, .int .i64 v.sp, .int .i64 v.fu] 25) := ⟨_, rfl⟩
  have HX3 : Hid (Has W3 w2.heap.size [.int .i64 v.id, .string v.nm, .int .i64 v.dr, .int .i64 v.ah, .int .i64 v.be, .int .i64 v.sp, .int .i64 v.fu]) := by rw [hW3]; exact Lib.hid (by simpa using Has.new w2 #[.int .i64 v.id, .string v.nm, .int .i64 v.dr, .int .i64 v.ah, .int .i64 v.be, .int .i64 v.sp, .int .i64 v.fu] 25)
  have HC3 : Hid (Cur w.heap.size A n c (w.heap.size + 1) k2 W3) := by rw [hW3]; exact Lib.hid (HC2.out.alloc _)
  have HB3 : Hid (Below w.heap.size w W3) := by rw [hW3]; exact Lib.hid (HB2.out.alloc HB2.out.size _)
  have HZ3 : Hid (Has W3 w.heap.size [.int .i64 0, .string ⟨#[]⟩, .int .i64 0, .int .i64 0, .int .i64 0, .int .i64 0, .int .i64 0]) := by rw [hW3]; exact Lib.hid (HZ2.out.alloc _)
  have HE3 := Lib.hid hW3
  clear hW3 HC2 HB2 HZ2
  go_upto_region 3 with fail
  rw [← HE3.out]
  have hbb : w2.heap.size ≠ w.heap.size + 1 := by omega
  have hbr : w.heap.size ≠ w.heap.size + 1 := by omega
  have hP := planS_ok (w.heap.size + 1) w2.heap.size w.heap.size
  refine region_inv (by kernel_rfl) (by kernel_rfl) (St w.heap.size A n c (w.heap.size + 1) v w 1000 38 (fixS (w.heap.size + 1) w2.heap.size w.heap.size) planS w2.heap.size w.heap.size) ?_ ?_ ?_
  · intro fuel listed a W hS i o ho hf hd
    have hi : i < 29 := (Array.getElem?_eq_some_iff.1 ho).1
    obtain rfl | rfl | rfl | rfl | rfl | rfl | rfl | rfl | rfl | rfl | rfl | rfl | rfl | rfl | rfl | rfl | rfl | rfl | rfl | rfl | rfl | rfl | rfl | rfl | rfl | rfl | rfl | rfl | rfl : i = 0 ∨ i = 1 ∨ i = 2 ∨ i = 3 ∨ i = 4 ∨ i = 5 ∨ i = 6 ∨ i = 7 ∨ i = 8 ∨ i = 9 ∨ i = 10 ∨ i = 11 ∨ i = 12 ∨ i = 13 ∨ i = 14 ∨ i = 15 ∨ i = 16 ∨ i = 17 ∨ i = 18 ∨ i = 19 ∨ i = 20 ∨ i = 21 ∨ i = 22 ∨ i = 23 ∨ i = 24 ∨ i = 25 ∨ i = 26 ∨ i = 27 ∨ i = 28 := by omega
    · exact hS.load hP hbb hbr ho (d := 13) (t := 7) (by kernel_rfl) (by simp [fixS]) rfl
    · exact hS.move hP hbb hbr ho (d := 14) (t := 6) (by kernel_rfl) (by simp [fixS]) rfl
    · exact hS.build hP hbb hbr ho (d := 15) (xs := [0, 700, 5000, 10000, -1, 10001]) (p := .buildSlice 48 6 #[(0, .const (.int .i64 0)), (1, .const (.int .i64 700)), (2, .const (.int .i64 5000)), (3, .const (.int .i64 10000)), (4, .const (Value.int IntKind.i64 (-1))), (5, .const (.int .i64 10001))]) (by kernel_rfl) (fun o a W ho => by simp [execOp, ho, go_sem]) rfl
    · exact hS.move hP hbb hbr ho (d := 16) (t := 6) (by kernel_rfl) (by simp [fixS]) rfl
    · exact hS.pick hP hbb hbr ho (by omega) (d := 17) (t := 16) (ts := #[42, 3]) (by kernel_rfl) (j := 3) rfl (dep_of (j := 3) (by kernel_rfl) ho hd) rfl
    · exact hS.quo hP hbb hbr ho (d := 18) (t := 17) (by kernel_rfl) (j := 4) rfl (dep_of (j := 4) (by kernel_rfl) ho hd) rfl
    · exact hS.add hP hbb hbr ho (m := 4) (by omega) (d := 19) (t := 18) (by kernel_rfl) (j := 5) rfl (dep_of (j := 5) (by kernel_rfl) ho hd) rfl
    · exact hS.slice hP hbb hbr ho (m := 4) (xs := [0, 700, 5000, 10000, -1, 10001]) (by omega) (by decide) (by decide) (d := 20) (t := 15) (s := 19) (by kernel_rfl) (j := 2) rfl (dep_of (j := 2) (by kernel_rfl) ho hd) (j' := 6) rfl (dep_of (j := 6) (by kernel_rfl) ho hd) rfl
    · exact hS.among hP hbb hbr ho (by omega) (xs := [0, 700, 5000, 10000, -1, 10001]) (by decide) (d := 21) (t := 14) (s := 20) (ts := #[42, 48]) (by kernel_rfl) (j := 1) rfl (dep_of (j := 1) (by kernel_rfl) ho hd) (j' := 7) rfl (dep_of (j := 7) (by kernel_rfl) ho hd) rfl
    · exact hS.move hP hbb hbr ho (d := 22) (t := 6) (by kernel_rfl) (by simp [fixS]) rfl
    · exact hS.build hP hbb hbr ho (d := 23) (xs := [0, 700, 5000, 10000, -1, 10001]) (p := .buildSlice 48 6 #[(0, .const (.int .i64 0)), (1, .const (.int .i64 700)), (2, .const (.int .i64 5000)), (3, .const (.int .i64 10000)), (4, .const (Value.int IntKind.i64 (-1))), (5, .const (.int .i64 10001))]) (by kernel_rfl) (fun o a W ho => by simp [execOp, ho, go_sem]) rfl
    · exact hS.move hP hbb hbr ho (d := 24) (t := 6) (by kernel_rfl) (by simp [fixS]) rfl
    · exact hS.pick hP hbb hbr ho (by omega) (d := 25) (t := 24) (ts := #[42, 3]) (by kernel_rfl) (j := 11) rfl (dep_of (j := 11) (by kernel_rfl) ho hd) rfl
    · exact hS.quo hP hbb hbr ho (d := 26) (t := 25) (by kernel_rfl) (j := 12) rfl (dep_of (j := 12) (by kernel_rfl) ho hd) rfl
    · exact hS.add hP hbb hbr ho (m := 4) (by omega) (d := 27) (t := 26) (by kernel_rfl) (j := 13) rfl (dep_of (j := 13) (by kernel_rfl) ho hd) rfl
    · exact hS.slice hP hbb hbr ho (m := 4) (xs := [0, 700, 5000, 10000, -1, 10001]) (by omega) (by decide) (by decide) (d := 28) (t := 23) (s := 27) (by kernel_rfl) (j := 10) rfl (dep_of (j := 10) (by kernel_rfl) ho hd) (j' := 14) rfl (dep_of (j := 14) (by kernel_rfl) ho hd) rfl
    · exact hS.among hP hbb hbr ho (by omega) (xs := [0, 700, 5000, 10000, -1, 10001]) (by decide) (d := 29) (t := 22) (s := 28) (ts := #[42, 48]) (by kernel_rfl) (j := 9) rfl (dep_of (j := 9) (by kernel_rfl) ho hd) (j' := 15) rfl (dep_of (j := 15) (by kernel_rfl) ho hd) rfl
    · exact hS.move hP hbb hbr ho (d := 30) (t := 6) (by kernel_rfl) (by simp [fixS]) rfl
    · exact hS.build hP hbb hbr ho (d := 31) (xs := [0, 1, 2, 3, -1, 4]) (p := .buildSlice 48 6 #[(0, .const (.int .i64 0)), (1, .const (.int .i64 1)), (2, .const (.int .i64 2)), (3, .const (.int .i64 3)), (4, .const (Value.int IntKind.i64 (-1))), (5, .const (.int .i64 4))]) (by kernel_rfl) (fun o a W ho => by simp [execOp, ho, go_sem]) rfl
    · exact hS.move hP hbb hbr ho (d := 32) (t := 6) (by kernel_rfl) (by simp [fixS]) rfl
    · exact hS.pick hP hbb hbr ho (by omega) (d := 33) (t := 32) (ts := #[42, 3]) (by kernel_rfl) (j := 19) rfl (dep_of (j := 19) (by kernel_rfl) ho hd) rfl
    · exact hS.quo hP hbb hbr ho (d := 34) (t := 33) (by kernel_rfl) (j := 20) rfl (dep_of (j := 20) (by kernel_rfl) ho hd) rfl
    · exact hS.add hP hbb hbr ho (m := 4) (by omega) (d := 35) (t := 34) (by kernel_rfl) (j := 21) rfl (dep_of (j := 21) (by kernel_rfl) ho hd) rfl
    · exact hS.slice hP hbb hbr ho (m := 4) (xs := [0, 1, 2, 3, -1, 4]) (by omega) (by decide) (by decide) (d := 36) (t := 31) (s := 35) (by kernel_rfl) (j := 18) rfl (dep_of (j := 18) (by kernel_rfl) ho hd) (j' := 22) rfl (dep_of (j := 22) (by kernel_rfl) ho hd) rfl
    · exact hS.among hP hbb hbr ho (by omega) (xs := [0, 1, 2, 3, -1, 4]) (by decide) (d := 37) (t := 30) (s := 36) (ts := #[42, 48]) (by kernel_rfl) (j := 17) rfl (dep_of (j := 17) (by kernel_rfl) ho hd) (j' := 23) rfl (dep_of (j := 23) (by kernel_rfl) ho hd) rfl
    · exact hS.store (by omega) hbr (Nat.le_refl _) (Nat.le_refl _) ho (t := 2) (s := 13) (by kernel_rfl) (by simp [fixS]) (j := 0) rfl (dep_of (j := 0) (by kernel_rfl) ho hd) rfl
    · exact hS.assign hP hbb hbr ho (d := 3) (t := 21) (by kernel_rfl) (j := 8) rfl (dep_of (j := 8) (by kernel_rfl) ho hd) rfl
    · exact hS.assign hP hbb hbr ho (d := 4) (t := 29) (by kernel_rfl) (j := 16) rfl (dep_of (j := 16) (by kernel_rfl) ho hd) rfl
    · exact hS.assign hP hbb hbr ho (d := 5) (t := 37) (by kernel_rfl) (j := 24) rfl (dep_of (j := 24) (by kernel_rfl) ho hd) rfl
  · intro fuel listed a W hS hall
    obtain ⟨x, ex⟩ := hS.slots 26 3 .any rfl (hall 26 (by decide))
    have ex' : a.tmps[3]?.getD undef = .int .i64 x := by simpa using ex
    obtain ⟨y, ey⟩ := hS.slots 27 4 .any rfl (hall 27 (by decide))
    have ey' : a.tmps[4]?.getD undef = .int .i64 y := by simpa using ey
    obtain ⟨h, eh⟩ := hS.slots 28 5 .any rfl (hall 28 (by decide))
    have eh' : a.tmps[5]?.getD undef = .int .i64 h := by simpa using eh
    have ep := hS.fix (2, .pointer (some ⟨w.heap.size, 0, none⟩)) (by simp [fixS])
    have ep' : a.tmps[2]?.getD undef = .pointer (some ⟨w.heap.size, 0, none⟩) := by simpa using ep
    obtain ⟨cs, hcs, h7, hcv⟩ := hS.res
    obtain rfl := hcv 25 rfl (hall 25 (by decide))
    have r0 := hcs.at_ 0 _ rfl
    have r1 := hcs.at_ 1 _ rfl
    have r2 := hcs.at_ 2 _ rfl
    have r3 := hcs.at_ 3 _ rfl
    have r4 := hcs.at_ 4 _ rfl
    have r5 := hcs.at_ 5 _ rfl
    have r6 := hcs.at_ 6 _ rfl
    have HBw := below_of (Below.refl w.heap.size w) hS.grown (Nat.le_refl _) (Nat.le_succ _)
    have hdf := hS.defers
    clear hS hall hcv h7 ep
    go_wp2_with fail
    refine bodyPost_ret (v := .tuple #[.agg #[.int .i64 v.id, .string v.nm, .int .i64 v.dr, .int .i64 v.ah, .int .i64 v.be, .int .i64 v.sp, .int .i64 v.fu], .int .i64 x, .int .i64 y, .int .i64 h]) (by simp [results, Tryd.results6, go_sem, ep', ex', ey', eh', r0, r1, r2, r3, r4, r5, r6]) hdf ⟨v, x, y, h, rfl, hvn, HBw⟩
  · have hsz : ∀ (a : Act), a.tmps.size = 38 → True := fun _ _ => trivial
    refine ⟨by simp, rfl, ?_, fun i d K hi hl => ?_, ⟨k2, by show k2 + 29 ≤ 1000; omega, HC3.out.drew_⟩, ?_, HX3.out.drew, ⟨_, HZ3.out.drew, rfl, fun i _ hl => ?_⟩⟩
    · intro p hp
      simp only [fixS, List.mem_cons, List.not_mem_nil, or_false] at hp
      rcases hp with rfl | rfl | rfl <;> simp
    · exact (rep_no hl).elim
    · have hB := HB3.out
      exact ⟨hB.os, hB.tape, hB.output, hB.size, fun i hi _ => hB.block i hi⟩
    · exact (rep_no hl).elim
def planM : List (Option Nat × Kd) := [(some 11, .agg), (some 12, .ptr), (some 13, .row [0, 1, 100, 12345, 100000, -1, 100001]), (some 14, .ptr), (some 15, .num 0 23), (some 16, .num 0 2), (some 17, .num 5 7), (some 18, .pre [0, 1, 100, 12345, 100000, -1, 100001]), (some 19, .any), (none, .agg), (some 3, .any)]
def fixM (g bb br : Nat) : List (Nat × Value) := [(4, .pointer (some ⟨g, 0, none⟩)), (5, .pointer (some ⟨bb, 0, none⟩)), (2, .pointer (some ⟨br, 0, none⟩))]
theorem planM_ok (g bb br : Nat) : planB 20 ((fixM g bb br).map (·.1)) planM = true := by kernel_rfl
def DrawMPost (w : World) (e : Ending) (w' : World) : Prop := ∃ (u : CC) (x : Int), e = .returned (.tuple #[.agg #[.int .i64 u.id, .string u.nm, .int .i64 u.dr, .int .i64 u.ah, .int .i64 u.be, .int .i64 u.sp, .int .i64 u.fu], .int .i64 x]) ∧ u.nm.size ≤ 11 ∧ Below w.heap.size w w'
set_option maxRecDepth 100000 in
set_option maxHeartbeats 12800000 in
theorem draw_secs (A : Option Addr) (n c : Nat) (w : World) (h : CodeRow w.heap.size A n w) : Calls Tryd.prog 11 #[.slice A n c] w (DrawMPost w) := by
  obtain ⟨W1, hW1⟩ : ∃ W, W = (w.alloc (.cells #[.int .i64 0, .string ⟨#[]⟩, .int .i64 0, .int .i64 0, .int .i64 0, .int .i64 0, .int .i64 0] 25)).alloc (.cells #[.slice A n c, .int .i64 0, .int .u64 0] 45) := ⟨_, rfl⟩
  have HB1 : Hid (Below w.heap.size w W1) := by rw [hW1]; exact Lib.hid (((Below.refl _ _).alloc (Nat.le_refl _) _).alloc (by simp) _)
  have HZ1 : Hid (Has W1 w.heap.size [.int .i64 0, .string ⟨#[]⟩, .int .i64 0, .int .i64 0, .int .i64 0, .int .i64 0, .int .i64 0]) := by rw [hW1]; exact Lib.hid ((by simpa using Has.new w #[.int .i64 0, .string ⟨#[]⟩, .int .i64 0, .int .i64 0, .int .i64 0, .int .i64 0, .int .i64 0] 25 : Has (w.alloc (.cells #[.int .i64 0, .string ⟨#[]⟩, .int .i64 0, .int .i64 0, .int .i64 0, .int .i64 0, .int .i64 0] 25)) w.heap.size [.int .i64 0, .string ⟨#[]⟩, .int .i64 0, .int .i64 0, .int .i64 0, .int .i64 0, .int .i64 0]).alloc _)
  have HC1 : Hid (Cur w.heap.size A n c (w.heap.size + 1) 0 W1) := by
    have h1 := cur_new (w.alloc (.cells #[.int .i64 0, .string ⟨#[]⟩, .int .i64 0, .int .i64 0, .int .i64 0, .int .i64 0, .int .i64 0] 25)) A n c 45 (h.below ((Below.refl w.heap.size w).alloc (Nat.le_refl _) _) (by simp))
    rw [← hW1, World.size_alloc] at h1
    exact Lib.hid (cur_low h1 (h.below HB1.out (Nat.le_refl _)) (by omega))
  have HE1 := Lib.hid hW1
  clear h hW1
  go_enter Tryd.func11, Tryd.ntmps11
  go_upto_region 2 with fail
  rw [← HE1.out]
  go_wp2_with fail
  refine (craft_any _ _ _ _ _ _ _ _ HC1.out (by omega)).mono ?_
  rintro e w2 ⟨v, k2, hk1, hk2, hvn, rfl, hc, hg⟩
  have HC2 := Lib.hid hc
  have HB2 := Lib.hid (below_of HB1.out hg HB1.out.size (Nat.le_succ _))
  have HZ2 := Lib.hid (has_grown HZ1.out hg (fun e => by have := Option.some.inj e; omega))
  have hz2 := HZ2.out.1
  have hc2 := HC2.out.lt
  clear hc hg HC1 HB1 HZ1 HE1
  obtain ⟨W3, hW3⟩ : ∃ W, W = w2.alloc (.cells #[.int .i64 v.id, .string v.nm, .int .i64 v.dr, .int .i64 v.ah, .int .i64 v.be, .int .i64 v.sp, .int .i64 v.fu] 25) := ⟨_, rfl⟩
  have HX3 : Hid (Has W3 w2.heap.size [.int .i64 v.id, .string v.nm, .int .i64 v.dr, .int .i64 v.ah, .int .i64 v.be, .int .i64 v.sp, .int .i64 v.fu]) := by rw [hW3]; exact Lib.hid (by simpa using Has.new w2 #[.int .i64 v.id, .string v.nm, .int .i64 v.dr, .int .i64 v.ah, .int .i64 v.be, .int .i64 v.sp, .int .i64 v.fu] 25)
  have HC3 : Hid (Cur w.heap.size A n c (w.heap.size + 1) k2 W3) := by rw [hW3]; exact Lib.hid (HC2.out.alloc _)
  have HB3 : Hid (Below w.heap.size w W3) := by rw [hW3]; exact Lib.hid (HB2.out.alloc HB2.out.size _)
  have HZ3 : Hid (Has W3 w.heap.size [.int .i64 0, .string ⟨#[]⟩, .int .i64 0, .int .i64 0, .int .i64 0, .int .i64 0, .int .i64 0]) := by rw [hW3]; exact Lib.hid (HZ2.out.alloc _)
  have HE3 := Lib.hid hW3
  clear hW3 HC2 HB2 HZ2
  go_upto_region 3 with fail
  rw [← HE3.out]
  have hbb : w2.heap.size ≠ w.heap.size + 1 := by omega
  have hbr : w.heap.size ≠ w.heap.size + 1 := by omega
  have hP := planM_ok (w.heap.size + 1) w2.heap.size w.heap.size
  refine region_inv (by kernel_rfl) (by kernel_rfl) (St w.heap.size A n c (w.heap.size + 1) v w 1000 20 (fixM (w.heap.size + 1) w2.heap.size w.heap.size) planM w2.heap.size w.heap.size) ?_ ?_ ?_
  · intro fuel listed a W hS i o ho hf hd
    have hi : i < 11 := (Array.getElem?_eq_some_iff.1 ho).1
    obtain rfl | rfl | rfl | rfl | rfl | rfl | rfl | rfl | rfl | rfl | rfl : i = 0 ∨ i = 1 ∨ i = 2 ∨ i = 3 ∨ i = 4 ∨ i = 5 ∨ i = 6 ∨ i = 7 ∨ i = 8 ∨ i = 9 ∨ i = 10 := by omega
    · exact hS.load hP hbb hbr ho (d := 11) (t := 5) (by kernel_rfl) (by simp [fixM]) rfl
    · exact hS.move hP hbb hbr ho (d := 12) (t := 4) (by kernel_rfl) (by simp [fixM]) rfl
    · exact hS.build hP hbb hbr ho (d := 13) (xs := [0, 1, 100, 12345, 100000, -1, 100001]) (p := .buildSlice 48 7 #[(0, .const (.int .i64 0)), (1, .const (.int .i64 1)), (2, .const (.int .i64 100)), (3, .const (.int .i64 12345)), (4, .const (.int .i64 100000)), (5, .const (Value.int IntKind.i64 (-1))), (6, .const (.int .i64 100001))]) (by kernel_rfl) (fun o a W ho => by simp [execOp, ho, go_sem]) rfl
    · exact hS.move hP hbb hbr ho (d := 14) (t := 4) (by kernel_rfl) (by simp [fixM]) rfl
    · exact hS.pick hP hbb hbr ho (by omega) (d := 15) (t := 14) (ts := #[42, 3]) (by kernel_rfl) (j := 3) rfl (dep_of (j := 3) (by kernel_rfl) ho hd) rfl
    · exact hS.quo hP hbb hbr ho (d := 16) (t := 15) (by kernel_rfl) (j := 4) rfl (dep_of (j := 4) (by kernel_rfl) ho hd) rfl
    · exact hS.add hP hbb hbr ho (m := 5) (by omega) (d := 17) (t := 16) (by kernel_rfl) (j := 5) rfl (dep_of (j := 5) (by kernel_rfl) ho hd) rfl
    · exact hS.slice hP hbb hbr ho (m := 5) (xs := [0, 1, 100, 12345, 100000, -1, 100001]) (by omega) (by decide) (by decide) (d := 18) (t := 13) (s := 17) (by kernel_rfl) (j := 2) rfl (dep_of (j := 2) (by kernel_rfl) ho hd) (j' := 6) rfl (dep_of (j := 6) (by kernel_rfl) ho hd) rfl
    · exact hS.among hP hbb hbr ho (by omega) (xs := [0, 1, 100, 12345, 100000, -1, 100001]) (by decide) (d := 19) (t := 12) (s := 18) (ts := #[42, 48]) (by kernel_rfl) (j := 1) rfl (dep_of (j := 1) (by kernel_rfl) ho hd) (j' := 7) rfl (dep_of (j := 7) (by kernel_rfl) ho hd) rfl
    · exact hS.store (by omega) hbr (Nat.le_refl _) (Nat.le_refl _) ho (t := 2) (s := 11) (by kernel_rfl) (by simp [fixM]) (j := 0) rfl (dep_of (j := 0) (by kernel_rfl) ho hd) rfl
    · exact hS.assign hP hbb hbr ho (d := 3) (t := 19) (by kernel_rfl) (j := 8) rfl (dep_of (j := 8) (by kernel_rfl) ho hd) rfl
  · intro fuel listed a W hS hall
    obtain ⟨x, ex⟩ := hS.slots 10 3 .any rfl (hall 10 (by decide))
    have ex' : a.tmps[3]?.getD undef = .int .i64 x := by simpa using ex
    have ep := hS.fix (2, .pointer (some ⟨w.heap.size, 0, none⟩)) (by simp [fixM])
    have ep' : a.tmps[2]?.getD undef = .pointer (some ⟨w.heap.size, 0, none⟩) := by simpa using ep
    obtain ⟨cs, hcs, h7, hcv⟩ := hS.res
    obtain rfl := hcv 9 rfl (hall 9 (by decide))
    have r0 := hcs.at_ 0 _ rfl
    have r1 := hcs.at_ 1 _ rfl
    have r2 := hcs.at_ 2 _ rfl
    have r3 := hcs.at_ 3 _ rfl
    have r4 := hcs.at_ 4 _ rfl
    have r5 := hcs.at_ 5 _ rfl
    have r6 := hcs.at_ 6 _ rfl
    have HBw := below_of (Below.refl w.heap.size w) hS.grown (Nat.le_refl _) (Nat.le_succ _)
    have hdf := hS.defers
    clear hS hall hcv h7 ep
    go_wp2_with fail
    refine bodyPost_ret (v := .tuple #[.agg #[.int .i64 v.id, .string v.nm, .int .i64 v.dr, .int .i64 v.ah, .int .i64 v.be, .int .i64 v.sp, .int .i64 v.fu], .int .i64 x]) (by simp [results, Tryd.results11, go_sem, ep', ex', r0, r1, r2, r3, r4, r5, r6]) hdf ⟨v, x, rfl, hvn, HBw⟩
  · have hsz : ∀ (a : Act), a.tmps.size = 20 → True := fun _ _ => trivial
    refine ⟨by simp, rfl, ?_, fun i d K hi hl => ?_, ⟨k2, by show k2 + 11 ≤ 1000; omega, HC3.out.drew_⟩, ?_, HX3.out.drew, ⟨_, HZ3.out.drew, rfl, fun i _ hl => ?_⟩⟩
    · intro p hp
      simp only [fixM, List.mem_cons, List.not_mem_nil, or_false] at hp
      rcases hp with rfl | rfl | rfl <;> simp
    · exact (rep_no hl).elim
    · have hB := HB3.out
      exact ⟨hB.os, hB.tape, hB.output, hB.size, fun i hi _ => hB.block i hi⟩
    · exact (rep_no hl).elim
def DrawTPost (w : World) (e : Ending) (w' : World) : Prop := ∃ u : CC, e = .returned (.agg #[.int .i64 u.id, .string u.nm, .int .i64 u.dr, .int .i64 u.ah, .int .i64 u.be, .int .i64 u.sp, .int .i64 u.fu]) ∧ u.nm.size ≤ 11 ∧ Below w.heap.size w w'
set_option maxRecDepth 20000 in
set_option maxHeartbeats 3200000 in
theorem draw_isC (A : Option Addr) (n c : Nat) (w : World) (h : CodeRow w.heap.size A n w) : Calls Tryd.prog 32 #[.slice A n c] w (DrawTPost w) := by
  obtain ⟨W1, hW1⟩ : ∃ W, W = (w.alloc (.cells #[.int .i64 0, .string ⟨#[]⟩, .int .i64 0, .int .i64 0, .int .i64 0, .int .i64 0, .int .i64 0] 25)).alloc (.cells #[.slice A n c, .int .i64 0, .int .u64 0] 45) := ⟨_, rfl⟩
  have HB1 : Hid (Below w.heap.size w W1) := by rw [hW1]; exact Lib.hid (((Below.refl _ _).alloc (Nat.le_refl _) _).alloc (by simp) _)
  have HZ1 : Hid (Has W1 w.heap.size [.int .i64 0, .string ⟨#[]⟩, .int .i64 0, .int .i64 0, .int .i64 0, .int .i64 0, .int .i64 0]) := by rw [hW1]; exact Lib.hid ((by simpa using Has.new w #[.int .i64 0, .string ⟨#[]⟩, .int .i64 0, .int .i64 0, .int .i64 0, .int .i64 0, .int .i64 0] 25 : Has (w.alloc (.cells #[.int .i64 0, .string ⟨#[]⟩, .int .i64 0, .int .i64 0, .int .i64 0, .int .i64 0, .int .i64 0] 25)) w.heap.size [.int .i64 0, .string ⟨#[]⟩, .int .i64 0, .int .i64 0, .int .i64 0, .int .i64 0, .int .i64 0]).alloc _)
  have HC1 : Hid (Cur w.heap.size A n c (w.heap.size + 1) 0 W1) := by
    have h1 := cur_new (w.alloc (.cells #[.int .i64 0, .string ⟨#[]⟩, .int .i64 0, .int .i64 0, .int .i64 0, .int .i64 0, .int .i64 0] 25)) A n c 45 (h.below ((Below.refl w.heap.size w).alloc (Nat.le_refl _) _) (by simp))
    rw [← hW1, World.size_alloc] at h1
    exact Lib.hid (cur_low h1 (h.below HB1.out (Nat.le_refl _)) (by omega))
  have HE1 := Lib.hid hW1
  clear h hW1
  go_enter Tryd.func32, Tryd.ntmps32
  go_upto_region 2 with fail
  rw [← HE1.out]
  go_wp2_with fail
  refine (among_at AnyI _ _ _ _ _ _ _ 3 [1, 42, 99] _ HC1.out rfl (by omega) (by decide) (by decide) (fun _ _ => trivial)).mono ?_
  rintro e w2 ⟨x, _, rfl, hc, hg⟩
  have HC2 := Lib.hid hc
  have HB2 := Lib.hid (below_of HB1.out hg HB1.out.size (Nat.le_succ _))
  have HZ2 := Lib.hid (has_grown HZ1.out hg (fun e => by have := Option.some.inj e; omega))
  clear hc hg HC1 HB1 HZ1 HE1
  go_wp2_with fail
  refine (craft_any _ _ _ _ _ _ _ _ HC2.out (by omega)).mono ?_
  rintro e w3 ⟨v, k3, hk1, hk2, hvn, rfl, hc, hg⟩
  have HBT := Lib.hid (below_of HB2.out hg HB2.out.size (Nat.le_succ _))
  have HZT := Lib.hid (has_grown HZ2.out hg (fun e => by have := Option.some.inj e; omega))
  clear hc hg HC2 HB2 HZ2
  have z0 := HZT.out.at_ 0 _ rfl
  have z1 := HZT.out.at_ 1 _ rfl
  have z2 := HZT.out.at_ 2 _ rfl
  have z3 := HZT.out.at_ 3 _ rfl
  have z4 := HZT.out.at_ 4 _ rfl
  have z5 := HZT.out.at_ 5 _ rfl
  have z6 := HZT.out.at_ 6 _ rfl
  have f0 := HZT.out.free 0
  have f1 := HZT.out.free 1
  have f2 := HZT.out.free 2
  have f3 := HZT.out.free 3
  have f4 := HZT.out.free 4
  have f5 := HZT.out.free 5
  have f6 := HZT.out.free 6
  have HR := Lib.hid (layC HZT.out rfl v)
  have HBR := Lib.hid (setL_below [.int .i64 v.id, .string v.nm, .int .i64 v.dr, .int .i64 v.ah, .int .i64 v.be, .int .i64 v.sp, .int .i64 v.fu] HBT.out (Nat.le_refl w.heap.size) 0)
  have r0 := HR.out.at_ 0 _ rfl
  have r1 := HR.out.at_ 1 _ rfl
  have r2 := HR.out.at_ 2 _ rfl
  have r3 := HR.out.at_ 3 _ rfl
  have r4 := HR.out.at_ 4 _ rfl
  have r5 := HR.out.at_ 5 _ rfl
  have r6 := HR.out.at_ 6 _ rfl
  simp only [setL] at r0 r1 r2 r3 r4 r5 r6
  go_wp2_with fail
  refine bodyPost_ret (v := .agg #[.int .i64 v.id, .string v.nm, .int .i64 v.dr, .int .i64 v.ah, .int .i64 v.be, .int .i64 v.sp, .int .i64 v.fu]) (by simp [results, Tryd.results32, go_sem, r0, r1, r2, r3, r4, r5, r6]) rfl ⟨v, rfl, hvn, HBR.out⟩
set_option maxRecDepth 20000 in
set_option maxHeartbeats 3200000 in
theorem draw_text (A : Option Addr) (n c : Nat) (w : World) (h : CodeRow w.heap.size A n w) : Calls Tryd.prog 14 #[.slice A n c] w (DrawTPost w) := by
  have hB : Below w.heap.size w (w.alloc (.cells #[.int .i64 0, .string ⟨#[]⟩, .int .i64 0, .int .i64 0, .int .i64 0, .int .i64 0, .int .i64 0] 25)) := (Below.refl _ _).alloc (Nat.le_refl _) _
  have HB1 := Lib.hid hB
  have HZ1 : Hid (Has (w.alloc (.cells #[.int .i64 0, .string ⟨#[]⟩, .int .i64 0, .int .i64 0, .int .i64 0, .int .i64 0, .int .i64 0] 25)) w.heap.size [.int .i64 0, .string ⟨#[]⟩, .int .i64 0, .int .i64 0, .int .i64 0, .int .i64 0, .int .i64 0]) := Lib.hid (by simpa using Has.new w #[.int .i64 0, .string ⟨#[]⟩, .int .i64 0, .int .i64 0, .int .i64 0, .int .i64 0, .int .i64 0] 25)
  have HD := Lib.hid (draw_isC A n c _ (h.below HB1.out (by simp : w.heap.size ≤ (w.alloc (.cells #[.int .i64 0, .string ⟨#[]⟩, .int .i64 0, .int .i64 0, .int .i64 0, .int .i64 0, .int .i64 0] 25)).heap.size)))
  clear h hB
  go_enter Tryd.func14, Tryd.ntmps14
  go_wp2_with fail
  refine HD.out.mono ?_
  rintro e w3 ⟨v, rfl, hvn, hb⟩
  have HBT := Lib.hid (bthen HB1.out hb HB1.out.size)
  have HZT := Lib.hid (HZ1.out.next hb)
  clear hb HB1 HZ1 HD
  have z0 := HZT.out.at_ 0 _ rfl
  have z1 := HZT.out.at_ 1 _ rfl
  have z2 := HZT.out.at_ 2 _ rfl
  have z3 := HZT.out.at_ 3 _ rfl
  have z4 := HZT.out.at_ 4 _ rfl
  have z5 := HZT.out.at_ 5 _ rfl
  have z6 := HZT.out.at_ 6 _ rfl
  have f0 := HZT.out.free 0
  have f1 := HZT.out.free 1
  have f2 := HZT.out.free 2
  have f3 := HZT.out.free 3
  have f4 := HZT.out.free 4
  have f5 := HZT.out.free 5
  have f6 := HZT.out.free 6
  have HR := Lib.hid (layC HZT.out rfl v)
  have HBR := Lib.hid (setL_below [.int .i64 v.id, .string v.nm, .int .i64 v.dr, .int .i64 v.ah, .int .i64 v.be, .int .i64 v.sp, .int .i64 v.fu] HBT.out (Nat.le_refl w.heap.size) 0)
  have r0 := HR.out.at_ 0 _ rfl
  have r1 := HR.out.at_ 1 _ rfl
  have r2 := HR.out.at_ 2 _ rfl
  have r3 := HR.out.at_ 3 _ rfl
  have r4 := HR.out.at_ 4 _ rfl
  have r5 := HR.out.at_ 5 _ rfl
  have r6 := HR.out.at_ 6 _ rfl
  simp only [setL] at r0 r1 r2 r3 r4 r5 r6
  go_wp2_with fail
  refine bodyPost_ret (v := .agg #[.int .i64 v.id, .string v.nm, .int .i64 v.dr, .int .i64 v.ah, .int .i64 v.be, .int .i64 v.sp, .int .i64 v.fu]) (by simp [results, Tryd.results14, go_sem, r0, r1, r2, r3, r4, r5, r6]) rfl ⟨v, rfl, hvn, HBR.out⟩
end Go.Proofs.YtfffahkommbheaaDoor
