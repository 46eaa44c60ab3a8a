/-
  A sounding that is drawn: contract of spec.l1Cur.sounding over this translation. Conditions: stated at the theorem.
-/
import Derived.Test.YtdmnkmdlochogaaRq
import Derived.Test.YtdmnkmdlochogaaSl
import Derived.Test.YtdmnkmdlochogaaQp
import Derived.Deep.DeepCutAuto
namespace Go.Proofs.Ytdmnkmdlochogaa
open Go.RowKit Go.Sort

theorem lay5 {w : World} {g : Nat} {cs : List Value} (h : Has w g cs) (hl : cs.length = 5) (v : SD) : Has (setL w g 0 [.int .i64 v.id, .int .i64 v.x, .int .i64 v.y, .int .i64 v.dep, .int .i64 v.dbt]) g [.int .i64 v.id, .int .i64 v.x, .int .i64 v.y, .int .i64 v.dep, .int .i64 v.dbt] := by
  match cs, hl with
  | [_, _, _, _, _], _ => exact ((((h.set 0 _).set 1 _).set 2 _).set 3 _).set 4 _
/-- What sounding hands back. -/
def SoundAny (B : Nat) (A : Option Addr) (n c g k : Nat) (id : Int) (w : World) (e : Ending) (w' : World) : Prop :=
  ∃ (v : SD) (k' : Nat), v.id = id ∧ k ≤ k' ∧ k' ≤ k + 9 ∧ e = .returned (.agg #[.int .i64 v.id, .int .i64 v.x, .int .i64 v.y, .int .i64 v.dep, .int .i64 v.dbt]) ∧ Cur B A n c g k' w' ∧ w.grownBy w' (some g)
set_option maxRecDepth 20000 in
set_option maxHeartbeats 6400000 in
theorem sound_any (B : Nat) (A : Option Addr) (n c g k : Nat) (id : Int) (w : World) (h : Cur B A n c g k w) (hk : k < 800000) :
    Calls Try.prog 168 #[.pointer (some ⟨g, 0, none⟩), .int .i64 id] w (SoundAny B A n c g k id w) := by
  have hgl := h.lt
  have HG0 : Hid (w.grownBy (w.alloc (.cells #[.int .i64 0, .int .i64 0, .int .i64 0, .int .i64 0, .int .i64 0] 75)) (some g)) := Lib.hid (World.grownBy_alloc _ _ _)
  have HZ0 : Hid (Has (w.alloc (.cells #[.int .i64 0, .int .i64 0, .int .i64 0, .int .i64 0, .int .i64 0] 75)) w.heap.size [.int .i64 0, .int .i64 0, .int .i64 0, .int .i64 0, .int .i64 0]) := Lib.hid (by simpa using Has.new w #[.int .i64 0, .int .i64 0, .int .i64 0, .int .i64 0, .int .i64 0] 75)
  have HC0 := Lib.hid (h.alloc (.cells #[.int .i64 0, .int .i64 0, .int .i64 0, .int .i64 0, .int .i64 0] 75))
  clear h
  have HNE : Hid (some w.heap.size ≠ some g) := Lib.hid fun e => by have := Option.some.inj e; omega
  go_enter Try.func168, Try.ntmps168
  go_wp2_with fail
  refine (spot_any _ _ _ _ _ _ _ HC0.out (by omega)).mono ?_
  rintro e w1 ⟨x, y, k1, _, _, hk1, hk2, rfl, hc, hg⟩
  have HC1 := Lib.hid hc
  have HG1 := Lib.hid (grown_trans HG0.out hg)
  have HZ1 := Lib.hid (has_grown HZ0.out hg HNE.out)
  clear hc hg HC0 HG0 HZ0
  go_wp2_with fail
  refine (among_at AnyI _ _ _ _ _ _ _ 9 [0, 150, 800, 810, 825, 840, 1200, -30, 20000] _ HC1.out rfl (by omega) (by decide) (by decide) (fun _ _ => trivial)).mono ?_
  rintro e w2 ⟨dep, _, rfl, hc, hg⟩
  have HC2 := Lib.hid hc
  have HG2 := Lib.hid (grown_trans HG1.out hg)
  have HZ2 := Lib.hid (has_grown HZ1.out hg HNE.out)
  clear hc hg HC1 HG1 HZ1
  go_wp2_with fail
  refine (among_at AnyI _ _ _ _ _ _ _ 6 [0, 5, 10, 25, 100, 500] _ HC2.out rfl (by omega) (by decide) (by decide) (fun _ _ => trivial)).mono ?_
  rintro e w3 ⟨dbt, _, rfl, hc, hg⟩
  have HC3 := Lib.hid hc
  have HG3 := Lib.hid (grown_trans HG2.out hg)
  have HZ3 := Lib.hid (has_grown HZ2.out hg HNE.out)
  clear hc hg HC2 HG2 HZ2
  obtain ⟨v, hv⟩ : ∃ v : SD, v = ⟨id, x, y, dep, dbt⟩ := ⟨_, rfl⟩
  have hv0 : v.id = id := by rw [hv]
  have hv1 : v.x = x := by rw [hv]
  have hv2 : v.y = y := by rw [hv]
  have hv3 : v.dep = dep := by rw [hv]
  have hv4 : v.dbt = dbt := by rw [hv]
  have HVI : Hid (v.id = id) := Lib.hid hv0
  subst hv1 hv2 hv3 hv4
  rw [← hv0]
  clear hv hv0
  obtain ⟨W0, hW0⟩ : ∃ W0, W0 = w3.alloc (.cells #[.int .i64 v.id, .int .i64 v.x, .int .i64 v.y, .int .i64 v.dep, .int .i64 v.dbt] 75) := ⟨_, rfl⟩
  have HE := Lib.hid hW0
  have HB0 : Hid (Has W0 w3.heap.size [.int .i64 v.id, .int .i64 v.x, .int .i64 v.y, .int .i64 v.dep, .int .i64 v.dbt]) := by rw [hW0]; exact Lib.hid (by simpa using Has.new w3 #[.int .i64 v.id, .int .i64 v.x, .int .i64 v.y, .int .i64 v.dep, .int .i64 v.dbt] 75)
  have HC7 : Hid (Cur B A n c g (k1 + 1 + 1) W0) := by rw [hW0]; exact Lib.hid (HC3.out.alloc _)
  have HG7 : Hid (w.grownBy W0 (some g)) := by rw [hW0]; exact Lib.hid (grown_trans HG3.out (World.grownBy_alloc _ _ _))
  have HZ7 : Hid (Has W0 w.heap.size [.int .i64 0, .int .i64 0, .int .i64 0, .int .i64 0, .int .i64 0]) := by rw [hW0]; exact Lib.hid (HZ3.out.alloc _)
  have hlt3 : w.heap.size < w3.heap.size := HZ3.out.1
  have HNB : Hid (some w3.heap.size ≠ some g) := Lib.hid fun e => by have := Option.some.inj e; have := HC3.out.lt; omega
  clear hW0 HC3 HG3 HZ3
  go_upto_region 2 with fail
  rw [← HE.out]
  go_wp2_with fail
  refine (pick_any _ _ _ _ _ _ 64 _ HC7.out (by omega) (by decide) (by decide)).mono ?_
  rintro e w8 ⟨q, hq, rfl, hc, hg⟩
  have HC8 := Lib.hid hc
  have HG8 := Lib.hid (grown_trans HG7.out hg)
  have HZ8 := Lib.hid (has_grown HZ7.out hg HNE.out)
  have HB8 := Lib.hid (has_grown HB0.out hg HNB.out)
  clear hc hg HC7 HG7 HZ7 HB0
  by_cases hq0 : q = 0
  · subst hq0
    go_wp2_with fail
    refine (among_at AnyI _ _ _ _ _ _ _ 3 [-1001, -1000, 20001] _ HC8.out rfl (by omega) (by decide) (by decide) (fun _ _ => trivial)).mono ?_
    rintro e w9 ⟨x, _, rfl, hc, hg⟩
    have HC9 := Lib.hid hc
    have HG9 := Lib.hid (grown_trans HG8.out hg)
    have HZ9 := Lib.hid (has_grown HZ8.out hg HNE.out)
    have HB9 := Lib.hid (has_grown HB8.out hg HNB.out)
    clear hc hg HC8 HG8 HZ8 HB8
    have b := HB9.out.at_ 3 _ rfl
    have fb := HB9.out.free 3
    go_upto_region 7 with fail
    obtain ⟨W1, hW1⟩ : ∃ W, W = w9.setCell ⟨w3.heap.size, 3, none⟩ (.int .i64 x) := ⟨_, rfl⟩
    rw [← hW1]
    obtain ⟨u, hu⟩ : ∃ u : SD, u = ⟨v.id, v.x, v.y, x, v.dbt⟩ := ⟨_, rfl⟩
    have HB1 : Hid (Has W1 w3.heap.size [.int .i64 u.id, .int .i64 u.x, .int .i64 u.y, .int .i64 u.dep, .int .i64 u.dbt]) := by rw [hW1, hu]; exact Lib.hid (HB9.out.set 3 _)
    have HZ1 : Hid (Has W1 w.heap.size [.int .i64 0, .int .i64 0, .int .i64 0, .int .i64 0, .int .i64 0]) := by rw [hW1]; exact Lib.hid (HZ9.out.far (p := ⟨w3.heap.size, 3, none⟩) (by show w3.heap.size ≠ w.heap.size; omega) _)
    have HC1 : Hid (Cur B A n c g (k1 + 1 + 1 + 1 + 1) W1) := by rw [hW1]; exact Lib.hid (HC9.out.set (fun e => HNB.out (by rw [e])) (by have := HC9.out.old; omega) 3 _)
    have HG1 : Hid (w.grownBy W1 (some g)) := by rw [hW1]; exact Lib.hid (grown_put HG9.out (Nat.le_of_lt hlt3) 3 _)
    have HUI : Hid (u.id = id) := Lib.hid (by rw [hu]; exact HVI.out)
    clear hW1 hu b fb HC9 HG9 HZ9 HB9
    have a0 := HB1.out.at_ 0 _ rfl
    have a1 := HB1.out.at_ 1 _ rfl
    have a2 := HB1.out.at_ 2 _ rfl
    have a3 := HB1.out.at_ 3 _ rfl
    have a4 := HB1.out.at_ 4 _ rfl
    have z0 := HZ1.out.at_ 0 _ rfl
    have z1 := HZ1.out.at_ 1 _ rfl
    have z2 := HZ1.out.at_ 2 _ rfl
    have z3 := HZ1.out.at_ 3 _ rfl
    have z4 := HZ1.out.at_ 4 _ rfl
    have f0 := HZ1.out.free 0
    have f1 := HZ1.out.free 1
    have f2 := HZ1.out.free 2
    have f3 := HZ1.out.free 3
    have f4 := HZ1.out.free 4
    have HR := Lib.hid (lay5 HZ1.out rfl u)
    have HCR := Lib.hid (HC1.out.kept (setL_grown [.int .i64 u.id, .int .i64 u.x, .int .i64 u.y, .int .i64 u.dep, .int .i64 u.dbt] W1 w.heap.size 0) (fun e => HNE.out e.symm) (fun i e => by have := Option.some.inj e; have := HC1.out.old; omega))
    have HGR := Lib.hid (grown_new HG1.out (setL_grown [.int .i64 u.id, .int .i64 u.x, .int .i64 u.y, .int .i64 u.dep, .int .i64 u.dbt] W1 w.heap.size 0) (Nat.le_refl _))
    have r0 := HR.out.at_ 0 _ rfl
    have r1 := HR.out.at_ 1 _ rfl
    have r2 := HR.out.at_ 2 _ rfl
    have r3 := HR.out.at_ 3 _ rfl
    have r4 := HR.out.at_ 4 _ rfl
    simp only [setL] at r0 r1 r2 r3 r4
    go_wp2_with fail
    refine bodyPost_ret (v := .agg #[.int .i64 u.id, .int .i64 u.x, .int .i64 u.y, .int .i64 u.dep, .int .i64 u.dbt]) (by simp [results, Try.results168, go_sem, r0, r1, r2, r3, r4]) rfl ⟨u, _, HUI.out, by omega, by omega, rfl, HCR.out, HGR.out⟩
  have hq0' : ((q : Int) == 0) = false := beq_eq_false_iff_ne.2 (by omega)
  by_cases hq1 : q = 1
  · subst hq1
    go_wp2_with fail
    refine (among_at AnyI _ _ _ _ _ _ _ 2 [-1, 501] _ HC8.out rfl (by omega) (by decide) (by decide) (fun _ _ => trivial)).mono ?_
    rintro e w9 ⟨x, _, rfl, hc, hg⟩
    have HC9 := Lib.hid hc
    have HG9 := Lib.hid (grown_trans HG8.out hg)
    have HZ9 := Lib.hid (has_grown HZ8.out hg HNE.out)
    have HB9 := Lib.hid (has_grown HB8.out hg HNB.out)
    clear hc hg HC8 HG8 HZ8 HB8
    have b := HB9.out.at_ 4 _ rfl
    have fb := HB9.out.free 4
    go_upto_region 7 with fail
    obtain ⟨W1, hW1⟩ : ∃ W, W = w9.setCell ⟨w3.heap.size, 4, none⟩ (.int .i64 x) := ⟨_, rfl⟩
    rw [← hW1]
    obtain ⟨u, hu⟩ : ∃ u : SD, u = ⟨v.id, v.x, v.y, v.dep, x⟩ := ⟨_, rfl⟩
    have HB1 : Hid (Has W1 w3.heap.size [.int .i64 u.id, .int .i64 u.x, .int .i64 u.y, .int .i64 u.dep, .int .i64 u.dbt]) := by rw [hW1, hu]; exact Lib.hid (HB9.out.set 4 _)
    have HZ1 : Hid (Has W1 w.heap.size [.int .i64 0, .int .i64 0, .int .i64 0, .int .i64 0, .int .i64 0]) := by rw [hW1]; exact Lib.hid (HZ9.out.far (p := ⟨w3.heap.size, 4, none⟩) (by show w3.heap.size ≠ w.heap.size; omega) _)
    have HC1 : Hid (Cur B A n c g (k1 + 1 + 1 + 1 + 1) W1) := by rw [hW1]; exact Lib.hid (HC9.out.set (fun e => HNB.out (by rw [e])) (by have := HC9.out.old; omega) 4 _)
    have HG1 : Hid (w.grownBy W1 (some g)) := by rw [hW1]; exact Lib.hid (grown_put HG9.out (Nat.le_of_lt hlt3) 4 _)
    have HUI : Hid (u.id = id) := Lib.hid (by rw [hu]; exact HVI.out)
    clear hW1 hu b fb HC9 HG9 HZ9 HB9
    have a0 := HB1.out.at_ 0 _ rfl
    have a1 := HB1.out.at_ 1 _ rfl
    have a2 := HB1.out.at_ 2 _ rfl
    have a3 := HB1.out.at_ 3 _ rfl
    have a4 := HB1.out.at_ 4 _ rfl
    have z0 := HZ1.out.at_ 0 _ rfl
    have z1 := HZ1.out.at_ 1 _ rfl
    have z2 := HZ1.out.at_ 2 _ rfl
    have z3 := HZ1.out.at_ 3 _ rfl
    have z4 := HZ1.out.at_ 4 _ rfl
    have f0 := HZ1.out.free 0
    have f1 := HZ1.out.free 1
    have f2 := HZ1.out.free 2
    have f3 := HZ1.out.free 3
    have f4 := HZ1.out.free 4
    have HR := Lib.hid (lay5 HZ1.out rfl u)
    have HCR := Lib.hid (HC1.out.kept (setL_grown [.int .i64 u.id, .int .i64 u.x, .int .i64 u.y, .int .i64 u.dep, .int .i64 u.dbt] W1 w.heap.size 0) (fun e => HNE.out e.symm) (fun i e => by have := Option.some.inj e; have := HC1.out.old; omega))
    have HGR := Lib.hid (grown_new HG1.out (setL_grown [.int .i64 u.id, .int .i64 u.x, .int .i64 u.y, .int .i64 u.dep, .int .i64 u.dbt] W1 w.heap.size 0) (Nat.le_refl _))
    have r0 := HR.out.at_ 0 _ rfl
    have r1 := HR.out.at_ 1 _ rfl
    have r2 := HR.out.at_ 2 _ rfl
    have r3 := HR.out.at_ 3 _ rfl
    have r4 := HR.out.at_ 4 _ rfl
    simp only [setL] at r0 r1 r2 r3 r4
    go_wp2_with fail
    refine bodyPost_ret (v := .agg #[.int .i64 u.id, .int .i64 u.x, .int .i64 u.y, .int .i64 u.dep, .int .i64 u.dbt]) (by simp [results, Try.results168, go_sem, r0, r1, r2, r3, r4]) rfl ⟨u, _, HUI.out, by omega, by omega, rfl, HCR.out, HGR.out⟩
  have hq1' : ((q : Int) == 1) = false := beq_eq_false_iff_ne.2 (by omega)
  go_upto_region 7 with fail
  have a0 := HB8.out.at_ 0 _ rfl
  have a1 := HB8.out.at_ 1 _ rfl
  have a2 := HB8.out.at_ 2 _ rfl
  have a3 := HB8.out.at_ 3 _ rfl
  have a4 := HB8.out.at_ 4 _ rfl
  have z0 := HZ8.out.at_ 0 _ rfl
  have z1 := HZ8.out.at_ 1 _ rfl
  have z2 := HZ8.out.at_ 2 _ rfl
  have z3 := HZ8.out.at_ 3 _ rfl
  have z4 := HZ8.out.at_ 4 _ rfl
  have f0 := HZ8.out.free 0
  have f1 := HZ8.out.free 1
  have f2 := HZ8.out.free 2
  have f3 := HZ8.out.free 3
  have f4 := HZ8.out.free 4
  have HR := Lib.hid (lay5 HZ8.out rfl v)
  have HCR := Lib.hid (HC8.out.kept (setL_grown [.int .i64 v.id, .int .i64 v.x, .int .i64 v.y, .int .i64 v.dep, .int .i64 v.dbt] w8 w.heap.size 0) (fun e => HNE.out e.symm) (fun i e => by have := Option.some.inj e; have := HC8.out.old; omega))
  have HGR := Lib.hid (grown_new HG8.out (setL_grown [.int .i64 v.id, .int .i64 v.x, .int .i64 v.y, .int .i64 v.dep, .int .i64 v.dbt] w8 w.heap.size 0) (Nat.le_refl _))
  have r0 := HR.out.at_ 0 _ rfl
  have r1 := HR.out.at_ 1 _ rfl
  have r2 := HR.out.at_ 2 _ rfl
  have r3 := HR.out.at_ 3 _ rfl
  have r4 := HR.out.at_ 4 _ rfl
  simp only [setL] at r0 r1 r2 r3 r4
  go_wp2_with fail
  refine bodyPost_ret (v := .agg #[.int .i64 v.id, .int .i64 v.x, .int .i64 v.y, .int .i64 v.dep, .int .i64 v.dbt]) (by simp [results, Try.results168, go_sem, r0, r1, r2, r3, r4]) rfl ⟨v, _, HVI.out, by omega, by omega, rfl, HCR.out, HGR.out⟩
end Go.Proofs.Ytdmnkmdlochogaa
