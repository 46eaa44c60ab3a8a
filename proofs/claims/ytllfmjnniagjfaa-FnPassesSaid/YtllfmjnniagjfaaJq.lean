/-
  A pass that is drawn: contract of spec.l1Cur.pass over this translation. Conditions: stated at the theorem.
-/
import Derived.Test.YtllfmjnniagjfaaRa
import Derived.Test.YtllfmjnniagjfaaJs
import Derived.Test.YtllfmjnniagjfaaJl
import Derived.Deep.DeepCutAuto
namespace Go.Proofs.Ytllfmjnniagjfaa
open Go.RowKit Go.Sort

theorem lay6 {w : World} {g : Nat} {cs : List Value} (h : Has w g cs) (hl : cs.length = 6) (v : PS) : Has (setL w g 0 [.int .i64 v.ln, .int .i64 v.bg, .int .i64 v.en, .int .i64 v.pi, .int .i64 v.bd, .int .i64 v.co]) g [.int .i64 v.ln, .int .i64 v.bg, .int .i64 v.en, .int .i64 v.pi, .int .i64 v.bd, .int .i64 v.co] := by
  match cs, hl with
  | [_, _, _, _, _, _], _ => exact (((((h.set 0 _).set 1 _).set 2 _).set 3 _).set 4 _).set 5 _
/-- What pass hands back. -/
def PassAny (B : Nat) (A : Option Addr) (n c g k : Nat) (bg : Int) (w : World) (e : Ending) (w' : World) : Prop :=
  ∃ (v : PS) (k' : Nat), ((bg + 1 ≤ v.en ∧ v.en ≤ bg + 25) ∨ v.en = 10001) ∧ k ≤ k' ∧ k' ≤ k + 9 ∧ e = .returned (.agg #[.int .i64 v.ln, .int .i64 v.bg, .int .i64 v.en, .int .i64 v.pi, .int .i64 v.bd, .int .i64 v.co]) ∧ Cur B A n c g k' w' ∧ w.grownBy w' (some g)
set_option maxRecDepth 20000 in
set_option maxHeartbeats 6400000 in
theorem pass_any (B : Nat) (A : Option Addr) (n c g k : Nat) (bg : Int) (w : World) (h : Cur B A n c g k w) (hk : k < 800000) (hb1 : -1000000 ≤ bg) (hb2 : bg ≤ 1000000) :
    Calls Try.prog 88 #[.pointer (some ⟨g, 0, none⟩), .int .i64 bg] w (PassAny B A n c g k bg w) := by
  have hgl := h.lt
  have HG0 : Hid (w.grownBy (w.alloc (.cells #[.int .i64 0, .int .i64 0, .int .i64 0, .int .i64 0, .int .i64 0, .int .i64 0] 40)) (some g)) := Lib.hid (World.grownBy_alloc _ _ _)
  have HZ0 : Hid (Has (w.alloc (.cells #[.int .i64 0, .int .i64 0, .int .i64 0, .int .i64 0, .int .i64 0, .int .i64 0] 40)) w.heap.size [.int .i64 0, .int .i64 0, .int .i64 0, .int .i64 0, .int .i64 0, .int .i64 0]) := Lib.hid (by simpa using Has.new w #[.int .i64 0, .int .i64 0, .int .i64 0, .int .i64 0, .int .i64 0, .int .i64 0] 40)
  have HC0 := Lib.hid (h.alloc (.cells #[.int .i64 0, .int .i64 0, .int .i64 0, .int .i64 0, .int .i64 0, .int .i64 0] 40))
  clear h
  have HNE : Hid (some w.heap.size ≠ some g) := Lib.hid fun e => by have := Option.some.inj e; omega
  obtain ⟨V0, hV0⟩ : ∃ V0, V0 = w.alloc (.cells #[.int .i64 0, .int .i64 0, .int .i64 0, .int .i64 0, .int .i64 0, .int .i64 0] 40) := ⟨_, rfl⟩
  rw [← hV0] at HG0 HZ0 HC0
  go_enter Try.func88, Try.ntmps88
  go_upto_region 1 with fail
  rw [← hV0]
  clear hV0
  go_wp2_with fail
  refine (among_at AnyI _ _ _ _ _ _ _ 5 [1, 2, 2, 3, 999] _ HC0.out rfl (by omega) (by decide) (by decide) (fun _ _ => trivial)).mono ?_
  rintro e w1 ⟨ln, _, rfl, hc, hg⟩
  have HC1 := Lib.hid hc
  have HG1 := Lib.hid (grown_trans HG0.out hg)
  have HZ1 := Lib.hid (has_grown HZ0.out hg HNE.out)
  clear hc hg HC0 HG0 HZ0
  go_wp2_with fail
  refine (among_at (fun x => 1 ≤ x ∧ x ≤ 25) _ _ _ _ _ _ _ 3 [1, 10, 25] _ HC1.out rfl (by omega) (by decide) (by decide) (by intro x hx; simp only [List.mem_cons, List.not_mem_nil, or_false] at hx; omega)).mono ?_
  rintro e w2 ⟨de, ⟨lde, ude⟩, rfl, hc, hg⟩
  have HC2 := Lib.hid hc
  have HG2 := Lib.hid (grown_trans HG1.out hg)
  have HZ2 := Lib.hid (has_grown HZ1.out hg HNE.out)
  clear hc hg HC1 HG1 HZ1
  go_wp2_with fail
  refine (among_at (fun x => 0 ≤ x ∧ x ≤ 100000) _ _ _ _ _ _ _ 4 [0, 10, 900, 100000] _ HC2.out rfl (by omega) (by decide) (by decide) (by intro x hx; simp only [List.mem_cons, List.not_mem_nil, or_false] at hx; omega)).mono ?_
  rintro e w3 ⟨pi, ⟨lpi, upi⟩, rfl, hc, hg⟩
  have HC3 := Lib.hid hc
  have HG3 := Lib.hid (grown_trans HG2.out hg)
  have HZ3 := Lib.hid (has_grown HZ2.out hg HNE.out)
  clear hc hg HC2 HG2 HZ2
  go_wp2_with fail
  refine (among_at AnyI _ _ _ _ _ _ _ 7 [0, 10, 179, 180, 190, 191, 359] _ HC3.out rfl (by omega) (by decide) (by decide) (fun _ _ => trivial)).mono ?_
  rintro e w4 ⟨co, _, rfl, hc, hg⟩
  have HC4 := Lib.hid hc
  have HG4 := Lib.hid (grown_trans HG3.out hg)
  have HZ4 := Lib.hid (has_grown HZ3.out hg HNE.out)
  clear hc hg HC3 HG3 HZ3
  obtain ⟨v, hv⟩ : ∃ v : PS, v = ⟨ln, bg, bg + de, pi, 0, co⟩ := ⟨_, rfl⟩
  have HVE : Hid ((bg + 1 ≤ v.en ∧ v.en ≤ bg + 25) ∨ v.en = 10001) := Lib.hid (.inl (by rw [hv]; show bg + 1 ≤ bg + de ∧ bg + de ≤ bg + 25; omega))
  have HVC : Hid (ln = v.ln ∧ bg = v.bg ∧ bg + de = v.en ∧ pi = v.pi ∧ 0 = v.bd ∧ co = v.co) := by rw [hv]; exact Lib.hid ⟨rfl, rfl, rfl, rfl, rfl, rfl⟩
  have hpi : 0 ≤ v.pi ∧ v.pi ≤ 100000 := by rw [hv]; exact ⟨lpi, upi⟩
  have hen : -2000000 ≤ v.en ∧ v.en ≤ 2000000 := by rw [hv]; show -2000000 ≤ bg + de ∧ bg + de ≤ 2000000; omega
  obtain ⟨hpi1, hpi2⟩ := hpi
  obtain ⟨hen1, hen2⟩ := hen
  obtain ⟨W0, hW0⟩ : ∃ W0, W0 = w4.alloc (.cells #[.int .i64 v.ln, .int .i64 v.bg, .int .i64 v.en, .int .i64 v.pi, .int .i64 v.bd, .int .i64 v.co] 40) := ⟨_, rfl⟩
  have HE : Hid (w4.alloc (.cells #[.int .i64 ln, .int .i64 bg, .int .i64 (bg + de), .int .i64 pi, .int .i64 0, .int .i64 co] 40) = W0) := by rw [hW0, hv]; exact Lib.hid rfl
  have HB0 : Hid (Has W0 w4.heap.size [.int .i64 v.ln, .int .i64 v.bg, .int .i64 v.en, .int .i64 v.pi, .int .i64 v.bd, .int .i64 v.co]) := by rw [hW0]; exact Lib.hid (by simpa using Has.new w4 #[.int .i64 v.ln, .int .i64 v.bg, .int .i64 v.en, .int .i64 v.pi, .int .i64 v.bd, .int .i64 v.co] 40)
  have HC7 : Hid (Cur B A n c g (k + 1 + 1 + 1 + 1) W0) := by rw [hW0]; exact Lib.hid (HC4.out.alloc _)
  have HG7 : Hid (w.grownBy W0 (some g)) := by rw [hW0]; exact Lib.hid (grown_trans HG4.out (World.grownBy_alloc _ _ _))
  have HZ7 : Hid (Has W0 w.heap.size [.int .i64 0, .int .i64 0, .int .i64 0, .int .i64 0, .int .i64 0, .int .i64 0]) := by rw [hW0]; exact Lib.hid (HZ4.out.alloc _)
  have hlt3 : w.heap.size < w4.heap.size := HZ4.out.1
  have HNB : Hid (some w4.heap.size ≠ some g) := Lib.hid fun e => by have := Option.some.inj e; have := HC4.out.lt; omega
  clear hW0 hv HC4 HG4 HZ4
  go_upto_region 2 with fail
  rw [HE.out]
  clear HE HVC
  have a3 := HB0.out.at_ 3 _ rfl
  obtain ⟨p1, hp1⟩ : ∃ p1, v.pi.tdiv 10 = p1 := ⟨_, rfl⟩
  have hp2 : 0 ≤ p1 ∧ p1 ≤ 10000 := by rw [← hp1, Int.tdiv_eq_ediv_of_nonneg hpi1]; omega
  obtain ⟨hp3, hp4⟩ := hp2
  have hp1c : v.pi / 10 = p1 := by rw [← hp1, Int.tdiv_eq_ediv_of_nonneg hpi1]
  go_wp2_with fail
  try rw [hp1]
  try rw [hp1c]
  refine (among_at (fun x => 0 ≤ x ∧ x ≤ 100001) _ _ _ _ _ _ _ 4 [0, p1, p1 + 1, v.pi] _ HC7.out rfl (by omega) (by simp) (by simp) (by intro x hx; simp only [List.mem_cons, List.not_mem_nil, or_false] at hx; omega)).mono ?_
  rintro e w5 ⟨bd, ⟨lbd, ubd⟩, rfl, hc, hg⟩
  have HC8 := Lib.hid hc
  have HG8 := Lib.hid (grown_trans HG7.out hg)
  have HZ8 := Lib.hid (has_grown HZ7.out hg HNE.out)
  have HB8 := Lib.hid (has_grown HB0.out hg HNB.out)
  clear hc hg HC7 HG7 HZ7 HB0 a3
  have b := HB8.out.at_ 4 _ rfl
  have fb := HB8.out.free 4
  go_upto_region 3 with fail
  obtain ⟨W1, hW1⟩ : ∃ W, W = w5.setCell ⟨w4.heap.size, 4, none⟩ (.int .i64 bd) := ⟨_, rfl⟩
  rw [← hW1]
  obtain ⟨u, hu⟩ : ∃ z9 : PS, z9 = ⟨v.ln, v.bg, v.en, v.pi, bd, v.co⟩ := ⟨_, rfl⟩
  have HBD9 : Hid (Has W1 w4.heap.size [.int .i64 u.ln, .int .i64 u.bg, .int .i64 u.en, .int .i64 u.pi, .int .i64 u.bd, .int .i64 u.co]) := by rw [hW1, hu]; exact Lib.hid (HB8.out.set 4 _)
  have HZD9 : Hid (Has W1 w.heap.size [.int .i64 0, .int .i64 0, .int .i64 0, .int .i64 0, .int .i64 0, .int .i64 0]) := by rw [hW1]; exact Lib.hid (HZ8.out.far (p := ⟨w4.heap.size, 4, none⟩) (by show w4.heap.size ≠ w.heap.size; omega) _)
  have HCD9 : Hid (Cur B A n c g (k + 1 + 1 + 1 + 1 + 1) W1) := by rw [hW1]; exact Lib.hid (HC8.out.set (fun e => HNB.out (by rw [e])) (by have := HC8.out.old; omega) 4 _)
  have HGD9 : Hid (w.grownBy W1 (some g)) := by rw [hW1]; exact Lib.hid (grown_put HG8.out (Nat.le_of_lt hlt3) 4 _)
  have HUI : Hid (((bg + 1 ≤ u.en ∧ u.en ≤ bg + 25) ∨ u.en = 10001) ∧ u.pi = v.pi ∧ u.bd = bd ∧ u.en = v.en) := by rw [hu]; exact Lib.hid ⟨HVE.out, rfl, rfl, rfl⟩
  clear hW1 hu b fb HC8 HG8 HZ8 HB8
  obtain ⟨m, hm⟩ : ∃ m, min bd v.pi = m := ⟨_, rfl⟩
  have HM := Lib.hid hm
  have hup := HUI.out.2.1
  have hub := HUI.out.2.2.1
  have hue := HUI.out.2.2.2
  have a3 := HBD9.out.at_ 3 _ rfl
  have a4 := HBD9.out.at_ 4 _ rfl
  clear hm
  go_wp2_with fail
  refine (leastJ_v _ _ m HM.out _).mono ?_
  rintro e w' ⟨rfl, rfl⟩
  clear a3 a4
  have b := HBD9.out.at_ 4 _ rfl
  have fb := HBD9.out.free 4
  go_upto_region 4 with fail
  obtain ⟨W2, hW1⟩ : ∃ W, W = W1.setCell ⟨w4.heap.size, 4, none⟩ (.int .i64 m) := ⟨_, rfl⟩
  rw [← hW1]
  obtain ⟨t, hu⟩ : ∃ z9 : PS, z9 = ⟨u.ln, u.bg, u.en, u.pi, m, u.co⟩ := ⟨_, rfl⟩
  have HBB9 : Hid (Has W2 w4.heap.size [.int .i64 t.ln, .int .i64 t.bg, .int .i64 t.en, .int .i64 t.pi, .int .i64 t.bd, .int .i64 t.co]) := by rw [hW1, hu]; exact Lib.hid (HBD9.out.set 4 _)
  have HZB9 : Hid (Has W2 w.heap.size [.int .i64 0, .int .i64 0, .int .i64 0, .int .i64 0, .int .i64 0, .int .i64 0]) := by rw [hW1]; exact Lib.hid (HZD9.out.far (p := ⟨w4.heap.size, 4, none⟩) (by show w4.heap.size ≠ w.heap.size; omega) _)
  have HCB9 : Hid (Cur B A n c g (k + 1 + 1 + 1 + 1 + 1) W2) := by rw [hW1]; exact Lib.hid (HCD9.out.set (fun e => HNB.out (by rw [e])) (by have := HCD9.out.old; omega) 4 _)
  have HGB9 : Hid (w.grownBy W2 (some g)) := by rw [hW1]; exact Lib.hid (grown_put HGD9.out (Nat.le_of_lt hlt3) 4 _)
  have HTI : Hid (((bg + 1 ≤ t.en ∧ t.en ≤ bg + 25) ∨ t.en = 10001) ∧ t.pi = v.pi ∧ t.en = v.en) := by rw [hu]; exact Lib.hid ⟨HUI.out.1, hup, hue⟩
  clear hW1 hu b fb HCD9 HGD9 HZD9 HBD9
  have htp := HTI.out.2.1
  have hte := HTI.out.2.2
  go_wp2_with fail
  refine (pick_any _ _ _ _ _ _ 80 _ HCB9.out (by omega) (by decide) (by decide)).mono ?_
  rintro e w8 ⟨q, hq, rfl, hc, hg⟩
  have HC8 := Lib.hid hc
  have HG8 := Lib.hid (grown_trans HGB9.out hg)
  have HZ8 := Lib.hid (has_grown HZB9.out hg HNE.out)
  have HB8 := Lib.hid (has_grown HBB9.out hg HNB.out)
  clear hc hg HCB9 HGB9 HZB9 HBB9
  by_cases hq0 : q = 0
  · subst hq0
    go_wp2_with fail
    refine (among_at AnyI _ _ _ _ _ _ _ 2 [0, 1000] _ HC8.out rfl (by omega) (by simp) (by simp) (fun _ _ => trivial)).mono ?_
    rintro e w9 ⟨x, _, rfl, hc, hg⟩
    have HC9 := Lib.hid hc
    have HG9 := Lib.hid (grown_trans HG8.out hg)
    have HZ9 := Lib.hid (has_grown HZ8.out hg HNE.out)
    have HB9 := Lib.hid (has_grown HB8.out hg HNB.out)
    clear hc hg HC8 HG8 HZ8 HB8
    have b := HB9.out.at_ 0 _ rfl
    have fb := HB9.out.free 0
    go_upto_region 17 with fail
    obtain ⟨W3, hW1⟩ : ∃ W, W = w9.setCell ⟨w4.heap.size, 0, none⟩ (.int .i64 x) := ⟨_, rfl⟩
    rw [← hW1]
    obtain ⟨s, hu⟩ : ∃ z9 : PS, z9 = ⟨x, t.bg, t.en, t.pi, t.bd, t.co⟩ := ⟨_, rfl⟩
    have HB1 : Hid (Has W3 w4.heap.size [.int .i64 s.ln, .int .i64 s.bg, .int .i64 s.en, .int .i64 s.pi, .int .i64 s.bd, .int .i64 s.co]) := by rw [hW1, hu]; exact Lib.hid (HB9.out.set 0 _)
    have HZ1 : Hid (Has W3 w.heap.size [.int .i64 0, .int .i64 0, .int .i64 0, .int .i64 0, .int .i64 0, .int .i64 0]) := by rw [hW1]; exact Lib.hid (HZ9.out.far (p := ⟨w4.heap.size, 0, none⟩) (by show w4.heap.size ≠ w.heap.size; omega) _)
    have HC1 : Hid (Cur B A n c g (k + 1 + 1 + 1 + 1 + 1 + 1 + 1) W3) := by rw [hW1]; exact Lib.hid (HC9.out.set (fun e => HNB.out (by rw [e])) (by have := HC9.out.old; omega) 0 _)
    have HG1 : Hid (w.grownBy W3 (some g)) := by rw [hW1]; exact Lib.hid (grown_put HG9.out (Nat.le_of_lt hlt3) 0 _)
    have HSI : Hid ((bg + 1 ≤ s.en ∧ s.en ≤ bg + 25) ∨ s.en = 10001) := Lib.hid (by rw [hu]; exact HTI.out.1)
    clear hW1 hu b fb HC9 HG9 HZ9 HB9
    have a0 := HB1.out.at_ 0 _ rfl
    have a1 := HB1.out.at_ 1 _ rfl
    have a2 := HB1.out.at_ 2 _ rfl
    have a3 := HB1.out.at_ 3 _ rfl
    have a4 := HB1.out.at_ 4 _ rfl
    have a5 := HB1.out.at_ 5 _ rfl
    have z0 := HZ1.out.at_ 0 _ rfl
    have z1 := HZ1.out.at_ 1 _ rfl
    have z2 := HZ1.out.at_ 2 _ rfl
    have z3 := HZ1.out.at_ 3 _ rfl
    have z4 := HZ1.out.at_ 4 _ rfl
    have z5 := HZ1.out.at_ 5 _ rfl
    have f0 := HZ1.out.free 0
    have f1 := HZ1.out.free 1
    have f2 := HZ1.out.free 2
    have f3 := HZ1.out.free 3
    have f4 := HZ1.out.free 4
    have f5 := HZ1.out.free 5
    have HR := Lib.hid (lay6 HZ1.out rfl s)
    have HCR := Lib.hid (HC1.out.kept (setL_grown [.int .i64 s.ln, .int .i64 s.bg, .int .i64 s.en, .int .i64 s.pi, .int .i64 s.bd, .int .i64 s.co] W3 w.heap.size 0) (fun e => HNE.out e.symm) (fun i e => by have := Option.some.inj e; have := HC1.out.old; omega))
    have HGR := Lib.hid (grown_new HG1.out (setL_grown [.int .i64 s.ln, .int .i64 s.bg, .int .i64 s.en, .int .i64 s.pi, .int .i64 s.bd, .int .i64 s.co] W3 w.heap.size 0) (Nat.le_refl _))
    have r0 := HR.out.at_ 0 _ rfl
    have r1 := HR.out.at_ 1 _ rfl
    have r2 := HR.out.at_ 2 _ rfl
    have r3 := HR.out.at_ 3 _ rfl
    have r4 := HR.out.at_ 4 _ rfl
    have r5 := HR.out.at_ 5 _ rfl
    simp only [setL] at r0 r1 r2 r3 r4 r5
    go_wp2_with fail
    refine bodyPost_ret (v := .agg #[.int .i64 s.ln, .int .i64 s.bg, .int .i64 s.en, .int .i64 s.pi, .int .i64 s.bd, .int .i64 s.co]) (by simp [results, Try.results88, go_sem, r0, r1, r2, r3, r4, r5]) rfl ⟨s, _, HSI.out, by omega, by omega, rfl, HCR.out, HGR.out⟩
  have hq0' : ((q : Int) == 0) = false := beq_eq_false_iff_ne.2 (by omega)
  by_cases hq1 : q = 1
  · subst hq1
    have a2 := HB8.out.at_ 2 _ rfl
    go_wp2_with fail
    refine (among_at AnyI _ _ _ _ _ _ _ 2 [-1, v.en] _ HC8.out rfl (by omega) (by simp) (by simp) (fun _ _ => trivial)).mono ?_
    rintro e w9 ⟨x, _, rfl, hc, hg⟩
    clear a2
    have HC9 := Lib.hid hc
    have HG9 := Lib.hid (grown_trans HG8.out hg)
    have HZ9 := Lib.hid (has_grown HZ8.out hg HNE.out)
    have HB9 := Lib.hid (has_grown HB8.out hg HNB.out)
    clear hc hg HC8 HG8 HZ8 HB8
    have b := HB9.out.at_ 1 _ rfl
    have fb := HB9.out.free 1
    go_upto_region 17 with fail
    obtain ⟨W3, hW1⟩ : ∃ W, W = w9.setCell ⟨w4.heap.size, 1, none⟩ (.int .i64 x) := ⟨_, rfl⟩
    rw [← hW1]
    obtain ⟨s, hu⟩ : ∃ z9 : PS, z9 = ⟨t.ln, x, t.en, t.pi, t.bd, t.co⟩ := ⟨_, rfl⟩
    have HB1 : Hid (Has W3 w4.heap.size [.int .i64 s.ln, .int .i64 s.bg, .int .i64 s.en, .int .i64 s.pi, .int .i64 s.bd, .int .i64 s.co]) := by rw [hW1, hu]; exact Lib.hid (HB9.out.set 1 _)
    have HZ1 : Hid (Has W3 w.heap.size [.int .i64 0, .int .i64 0, .int .i64 0, .int .i64 0, .int .i64 0, .int .i64 0]) := by rw [hW1]; exact Lib.hid (HZ9.out.far (p := ⟨w4.heap.size, 1, none⟩) (by show w4.heap.size ≠ w.heap.size; omega) _)
    have HC1 : Hid (Cur B A n c g (k + 1 + 1 + 1 + 1 + 1 + 1 + 1) W3) := by rw [hW1]; exact Lib.hid (HC9.out.set (fun e => HNB.out (by rw [e])) (by have := HC9.out.old; omega) 1 _)
    have HG1 : Hid (w.grownBy W3 (some g)) := by rw [hW1]; exact Lib.hid (grown_put HG9.out (Nat.le_of_lt hlt3) 1 _)
    have HSI : Hid ((bg + 1 ≤ s.en ∧ s.en ≤ bg + 25) ∨ s.en = 10001) := Lib.hid (by rw [hu]; exact HTI.out.1)
    clear hW1 hu b fb HC9 HG9 HZ9 HB9
    have a0 := HB1.out.at_ 0 _ rfl
    have a1 := HB1.out.at_ 1 _ rfl
    have a2 := HB1.out.at_ 2 _ rfl
    have a3 := HB1.out.at_ 3 _ rfl
    have a4 := HB1.out.at_ 4 _ rfl
    have a5 := HB1.out.at_ 5 _ rfl
    have z0 := HZ1.out.at_ 0 _ rfl
    have z1 := HZ1.out.at_ 1 _ rfl
    have z2 := HZ1.out.at_ 2 _ rfl
    have z3 := HZ1.out.at_ 3 _ rfl
    have z4 := HZ1.out.at_ 4 _ rfl
    have z5 := HZ1.out.at_ 5 _ rfl
    have f0 := HZ1.out.free 0
    have f1 := HZ1.out.free 1
    have f2 := HZ1.out.free 2
    have f3 := HZ1.out.free 3
    have f4 := HZ1.out.free 4
    have f5 := HZ1.out.free 5
    have HR := Lib.hid (lay6 HZ1.out rfl s)
    have HCR := Lib.hid (HC1.out.kept (setL_grown [.int .i64 s.ln, .int .i64 s.bg, .int .i64 s.en, .int .i64 s.pi, .int .i64 s.bd, .int .i64 s.co] W3 w.heap.size 0) (fun e => HNE.out e.symm) (fun i e => by have := Option.some.inj e; have := HC1.out.old; omega))
    have HGR := Lib.hid (grown_new HG1.out (setL_grown [.int .i64 s.ln, .int .i64 s.bg, .int .i64 s.en, .int .i64 s.pi, .int .i64 s.bd, .int .i64 s.co] W3 w.heap.size 0) (Nat.le_refl _))
    have r0 := HR.out.at_ 0 _ rfl
    have r1 := HR.out.at_ 1 _ rfl
    have r2 := HR.out.at_ 2 _ rfl
    have r3 := HR.out.at_ 3 _ rfl
    have r4 := HR.out.at_ 4 _ rfl
    have r5 := HR.out.at_ 5 _ rfl
    simp only [setL] at r0 r1 r2 r3 r4 r5
    go_wp2_with fail
    refine bodyPost_ret (v := .agg #[.int .i64 s.ln, .int .i64 s.bg, .int .i64 s.en, .int .i64 s.pi, .int .i64 s.bd, .int .i64 s.co]) (by simp [results, Try.results88, go_sem, r0, r1, r2, r3, r4, r5]) rfl ⟨s, _, HSI.out, by omega, by omega, rfl, HCR.out, HGR.out⟩
  have hq1' : ((q : Int) == 1) = false := beq_eq_false_iff_ne.2 (by omega)
  by_cases hq2 : q = 2
  · subst hq2
    have b := HB8.out.at_ 2 _ rfl
    have fb := HB8.out.free 2
    go_upto_region 17 with fail
    obtain ⟨W3, hW1⟩ : ∃ W, W = w8.setCell ⟨w4.heap.size, 2, none⟩ (.int .i64 10001) := ⟨_, rfl⟩
    rw [← hW1]
    obtain ⟨s, hu⟩ : ∃ z9 : PS, z9 = ⟨t.ln, t.bg, 10001, t.pi, t.bd, t.co⟩ := ⟨_, rfl⟩
    have HB1 : Hid (Has W3 w4.heap.size [.int .i64 s.ln, .int .i64 s.bg, .int .i64 s.en, .int .i64 s.pi, .int .i64 s.bd, .int .i64 s.co]) := by rw [hW1, hu]; exact Lib.hid (HB8.out.set 2 _)
    have HZ1 : Hid (Has W3 w.heap.size [.int .i64 0, .int .i64 0, .int .i64 0, .int .i64 0, .int .i64 0, .int .i64 0]) := by rw [hW1]; exact Lib.hid (HZ8.out.far (p := ⟨w4.heap.size, 2, none⟩) (by show w4.heap.size ≠ w.heap.size; omega) _)
    have HC1 : Hid (Cur B A n c g (k + 1 + 1 + 1 + 1 + 1 + 1) W3) := by rw [hW1]; exact Lib.hid (HC8.out.set (fun e => HNB.out (by rw [e])) (by have := HC8.out.old; omega) 2 _)
    have HG1 : Hid (w.grownBy W3 (some g)) := by rw [hW1]; exact Lib.hid (grown_put HG8.out (Nat.le_of_lt hlt3) 2 _)
    have HSI : Hid ((bg + 1 ≤ s.en ∧ s.en ≤ bg + 25) ∨ s.en = 10001) := Lib.hid (.inr (by rw [hu]))
    clear hW1 hu b fb HC8 HG8 HZ8 HB8
    have a0 := HB1.out.at_ 0 _ rfl
    have a1 := HB1.out.at_ 1 _ rfl
    have a2 := HB1.out.at_ 2 _ rfl
    have a3 := HB1.out.at_ 3 _ rfl
    have a4 := HB1.out.at_ 4 _ rfl
    have a5 := HB1.out.at_ 5 _ rfl
    have z0 := HZ1.out.at_ 0 _ rfl
    have z1 := HZ1.out.at_ 1 _ rfl
    have z2 := HZ1.out.at_ 2 _ rfl
    have z3 := HZ1.out.at_ 3 _ rfl
    have z4 := HZ1.out.at_ 4 _ rfl
    have z5 := HZ1.out.at_ 5 _ rfl
    have f0 := HZ1.out.free 0
    have f1 := HZ1.out.free 1
    have f2 := HZ1.out.free 2
    have f3 := HZ1.out.free 3
    have f4 := HZ1.out.free 4
    have f5 := HZ1.out.free 5
    have HR := Lib.hid (lay6 HZ1.out rfl s)
    have HCR := Lib.hid (HC1.out.kept (setL_grown [.int .i64 s.ln, .int .i64 s.bg, .int .i64 s.en, .int .i64 s.pi, .int .i64 s.bd, .int .i64 s.co] W3 w.heap.size 0) (fun e => HNE.out e.symm) (fun i e => by have := Option.some.inj e; have := HC1.out.old; omega))
    have HGR := Lib.hid (grown_new HG1.out (setL_grown [.int .i64 s.ln, .int .i64 s.bg, .int .i64 s.en, .int .i64 s.pi, .int .i64 s.bd, .int .i64 s.co] W3 w.heap.size 0) (Nat.le_refl _))
    have r0 := HR.out.at_ 0 _ rfl
    have r1 := HR.out.at_ 1 _ rfl
    have r2 := HR.out.at_ 2 _ rfl
    have r3 := HR.out.at_ 3 _ rfl
    have r4 := HR.out.at_ 4 _ rfl
    have r5 := HR.out.at_ 5 _ rfl
    simp only [setL] at r0 r1 r2 r3 r4 r5
    go_wp2_with fail
    refine bodyPost_ret (v := .agg #[.int .i64 s.ln, .int .i64 s.bg, .int .i64 s.en, .int .i64 s.pi, .int .i64 s.bd, .int .i64 s.co]) (by simp [results, Try.results88, go_sem, r0, r1, r2, r3, r4, r5]) rfl ⟨s, _, HSI.out, by omega, by omega, rfl, HCR.out, HGR.out⟩
  have hq2' : ((q : Int) == 2) = false := beq_eq_false_iff_ne.2 (by omega)
  by_cases hq3 : q = 3
  · subst hq3
    go_wp2_with fail
    refine (among_at AnyI _ _ _ _ _ _ _ 2 [-1, 100001] _ HC8.out rfl (by omega) (by simp) (by simp) (fun _ _ => trivial)).mono ?_
    rintro e w9 ⟨x, _, rfl, hc, hg⟩
    have HC9 := Lib.hid hc
    have HG9 := Lib.hid (grown_trans HG8.out hg)
    have HZ9 := Lib.hid (has_grown HZ8.out hg HNE.out)
    have HB9 := Lib.hid (has_grown HB8.out hg HNB.out)
    clear hc hg HC8 HG8 HZ8 HB8
    have b := HB9.out.at_ 3 _ rfl
    have fb := HB9.out.free 3
    go_upto_region 17 with fail
    obtain ⟨W3, hW1⟩ : ∃ W, W = w9.setCell ⟨w4.heap.size, 3, none⟩ (.int .i64 x) := ⟨_, rfl⟩
    rw [← hW1]
    obtain ⟨s, hu⟩ : ∃ z9 : PS, z9 = ⟨t.ln, t.bg, t.en, x, t.bd, t.co⟩ := ⟨_, rfl⟩
    have HB1 : Hid (Has W3 w4.heap.size [.int .i64 s.ln, .int .i64 s.bg, .int .i64 s.en, .int .i64 s.pi, .int .i64 s.bd, .int .i64 s.co]) := by rw [hW1, hu]; exact Lib.hid (HB9.out.set 3 _)
    have HZ1 : Hid (Has W3 w.heap.size [.int .i64 0, .int .i64 0, .int .i64 0, .int .i64 0, .int .i64 0, .int .i64 0]) := by rw [hW1]; exact Lib.hid (HZ9.out.far (p := ⟨w4.heap.size, 3, none⟩) (by show w4.heap.size ≠ w.heap.size; omega) _)
    have HC1 : Hid (Cur B A n c g (k + 1 + 1 + 1 + 1 + 1 + 1 + 1) W3) := by rw [hW1]; exact Lib.hid (HC9.out.set (fun e => HNB.out (by rw [e])) (by have := HC9.out.old; omega) 3 _)
    have HG1 : Hid (w.grownBy W3 (some g)) := by rw [hW1]; exact Lib.hid (grown_put HG9.out (Nat.le_of_lt hlt3) 3 _)
    have HSI : Hid ((bg + 1 ≤ s.en ∧ s.en ≤ bg + 25) ∨ s.en = 10001) := Lib.hid (by rw [hu]; exact HTI.out.1)
    clear hW1 hu b fb HC9 HG9 HZ9 HB9
    have a0 := HB1.out.at_ 0 _ rfl
    have a1 := HB1.out.at_ 1 _ rfl
    have a2 := HB1.out.at_ 2 _ rfl
    have a3 := HB1.out.at_ 3 _ rfl
    have a4 := HB1.out.at_ 4 _ rfl
    have a5 := HB1.out.at_ 5 _ rfl
    have z0 := HZ1.out.at_ 0 _ rfl
    have z1 := HZ1.out.at_ 1 _ rfl
    have z2 := HZ1.out.at_ 2 _ rfl
    have z3 := HZ1.out.at_ 3 _ rfl
    have z4 := HZ1.out.at_ 4 _ rfl
    have z5 := HZ1.out.at_ 5 _ rfl
    have f0 := HZ1.out.free 0
    have f1 := HZ1.out.free 1
    have f2 := HZ1.out.free 2
    have f3 := HZ1.out.free 3
    have f4 := HZ1.out.free 4
    have f5 := HZ1.out.free 5
    have HR := Lib.hid (lay6 HZ1.out rfl s)
    have HCR := Lib.hid (HC1.out.kept (setL_grown [.int .i64 s.ln, .int .i64 s.bg, .int .i64 s.en, .int .i64 s.pi, .int .i64 s.bd, .int .i64 s.co] W3 w.heap.size 0) (fun e => HNE.out e.symm) (fun i e => by have := Option.some.inj e; have := HC1.out.old; omega))
    have HGR := Lib.hid (grown_new HG1.out (setL_grown [.int .i64 s.ln, .int .i64 s.bg, .int .i64 s.en, .int .i64 s.pi, .int .i64 s.bd, .int .i64 s.co] W3 w.heap.size 0) (Nat.le_refl _))
    have r0 := HR.out.at_ 0 _ rfl
    have r1 := HR.out.at_ 1 _ rfl
    have r2 := HR.out.at_ 2 _ rfl
    have r3 := HR.out.at_ 3 _ rfl
    have r4 := HR.out.at_ 4 _ rfl
    have r5 := HR.out.at_ 5 _ rfl
    simp only [setL] at r0 r1 r2 r3 r4 r5
    go_wp2_with fail
    refine bodyPost_ret (v := .agg #[.int .i64 s.ln, .int .i64 s.bg, .int .i64 s.en, .int .i64 s.pi, .int .i64 s.bd, .int .i64 s.co]) (by simp [results, Try.results88, go_sem, r0, r1, r2, r3, r4, r5]) rfl ⟨s, _, HSI.out, by omega, by omega, rfl, HCR.out, HGR.out⟩
  have hq3' : ((q : Int) == 3) = false := beq_eq_false_iff_ne.2 (by omega)
  by_cases hq4 : q = 4
  · subst hq4
    have a3 := HB8.out.at_ 3 _ rfl
    go_wp2_with fail
    refine (among_at AnyI _ _ _ _ _ _ _ 2 [-1, v.pi + 1] _ HC8.out rfl (by omega) (by simp) (by simp) (fun _ _ => trivial)).mono ?_
    rintro e w9 ⟨x, _, rfl, hc, hg⟩
    clear a3
    have HC9 := Lib.hid hc
    have HG9 := Lib.hid (grown_trans HG8.out hg)
    have HZ9 := Lib.hid (has_grown HZ8.out hg HNE.out)
    have HB9 := Lib.hid (has_grown HB8.out hg HNB.out)
    clear hc hg HC8 HG8 HZ8 HB8
    have b := HB9.out.at_ 4 _ rfl
    have fb := HB9.out.free 4
    go_upto_region 17 with fail
    obtain ⟨W3, hW1⟩ : ∃ W, W = w9.setCell ⟨w4.heap.size, 4, none⟩ (.int .i64 x) := ⟨_, rfl⟩
    rw [← hW1]
    obtain ⟨s, hu⟩ : ∃ z9 : PS, z9 = ⟨t.ln, t.bg, t.en, t.pi, x, t.co⟩ := ⟨_, rfl⟩
    have HB1 : Hid (Has W3 w4.heap.size [.int .i64 s.ln, .int .i64 s.bg, .int .i64 s.en, .int .i64 s.pi, .int .i64 s.bd, .int .i64 s.co]) := by rw [hW1, hu]; exact Lib.hid (HB9.out.set 4 _)
    have HZ1 : Hid (Has W3 w.heap.size [.int .i64 0, .int .i64 0, .int .i64 0, .int .i64 0, .int .i64 0, .int .i64 0]) := by rw [hW1]; exact Lib.hid (HZ9.out.far (p := ⟨w4.heap.size, 4, none⟩) (by show w4.heap.size ≠ w.heap.size; omega) _)
    have HC1 : Hid (Cur B A n c g (k + 1 + 1 + 1 + 1 + 1 + 1 + 1) W3) := by rw [hW1]; exact Lib.hid (HC9.out.set (fun e => HNB.out (by rw [e])) (by have := HC9.out.old; omega) 4 _)
    have HG1 : Hid (w.grownBy W3 (some g)) := by rw [hW1]; exact Lib.hid (grown_put HG9.out (Nat.le_of_lt hlt3) 4 _)
    have HSI : Hid ((bg + 1 ≤ s.en ∧ s.en ≤ bg + 25) ∨ s.en = 10001) := Lib.hid (by rw [hu]; exact HTI.out.1)
    clear hW1 hu b fb HC9 HG9 HZ9 HB9
    have a0 := HB1.out.at_ 0 _ rfl
    have a1 := HB1.out.at_ 1 _ rfl
    have a2 := HB1.out.at_ 2 _ rfl
    have a3 := HB1.out.at_ 3 _ rfl
    have a4 := HB1.out.at_ 4 _ rfl
    have a5 := HB1.out.at_ 5 _ rfl
    have z0 := HZ1.out.at_ 0 _ rfl
    have z1 := HZ1.out.at_ 1 _ rfl
    have z2 := HZ1.out.at_ 2 _ rfl
    have z3 := HZ1.out.at_ 3 _ rfl
    have z4 := HZ1.out.at_ 4 _ rfl
    have z5 := HZ1.out.at_ 5 _ rfl
    have f0 := HZ1.out.free 0
    have f1 := HZ1.out.free 1
    have f2 := HZ1.out.free 2
    have f3 := HZ1.out.free 3
    have f4 := HZ1.out.free 4
    have f5 := HZ1.out.free 5
    have HR := Lib.hid (lay6 HZ1.out rfl s)
    have HCR := Lib.hid (HC1.out.kept (setL_grown [.int .i64 s.ln, .int .i64 s.bg, .int .i64 s.en, .int .i64 s.pi, .int .i64 s.bd, .int .i64 s.co] W3 w.heap.size 0) (fun e => HNE.out e.symm) (fun i e => by have := Option.some.inj e; have := HC1.out.old; omega))
    have HGR := Lib.hid (grown_new HG1.out (setL_grown [.int .i64 s.ln, .int .i64 s.bg, .int .i64 s.en, .int .i64 s.pi, .int .i64 s.bd, .int .i64 s.co] W3 w.heap.size 0) (Nat.le_refl _))
    have r0 := HR.out.at_ 0 _ rfl
    have r1 := HR.out.at_ 1 _ rfl
    have r2 := HR.out.at_ 2 _ rfl
    have r3 := HR.out.at_ 3 _ rfl
    have r4 := HR.out.at_ 4 _ rfl
    have r5 := HR.out.at_ 5 _ rfl
    simp only [setL] at r0 r1 r2 r3 r4 r5
    go_wp2_with fail
    refine bodyPost_ret (v := .agg #[.int .i64 s.ln, .int .i64 s.bg, .int .i64 s.en, .int .i64 s.pi, .int .i64 s.bd, .int .i64 s.co]) (by simp [results, Try.results88, go_sem, r0, r1, r2, r3, r4, r5]) rfl ⟨s, _, HSI.out, by omega, by omega, rfl, HCR.out, HGR.out⟩
  have hq4' : ((q : Int) == 4) = false := beq_eq_false_iff_ne.2 (by omega)
  by_cases hq5 : q = 5
  · subst hq5
    go_wp2_with fail
    refine (among_at AnyI _ _ _ _ _ _ _ 2 [-1, 360] _ HC8.out rfl (by omega) (by simp) (by simp) (fun _ _ => trivial)).mono ?_
    rintro e w9 ⟨x, _, rfl, hc, hg⟩
    have HC9 := Lib.hid hc
    have HG9 := Lib.hid (grown_trans HG8.out hg)
    have HZ9 := Lib.hid (has_grown HZ8.out hg HNE.out)
    have HB9 := Lib.hid (has_grown HB8.out hg HNB.out)
    clear hc hg HC8 HG8 HZ8 HB8
    have b := HB9.out.at_ 5 _ rfl
    have fb := HB9.out.free 5
    go_upto_region 17 with fail
    obtain ⟨W3, hW1⟩ : ∃ W, W = w9.setCell ⟨w4.heap.size, 5, none⟩ (.int .i64 x) := ⟨_, rfl⟩
    rw [← hW1]
    obtain ⟨s, hu⟩ : ∃ z9 : PS, z9 = ⟨t.ln, t.bg, t.en, t.pi, t.bd, x⟩ := ⟨_, rfl⟩
    have HB1 : Hid (Has W3 w4.heap.size [.int .i64 s.ln, .int .i64 s.bg, .int .i64 s.en, .int .i64 s.pi, .int .i64 s.bd, .int .i64 s.co]) := by rw [hW1, hu]; exact Lib.hid (HB9.out.set 5 _)
    have HZ1 : Hid (Has W3 w.heap.size [.int .i64 0, .int .i64 0, .int .i64 0, .int .i64 0, .int .i64 0, .int .i64 0]) := by rw [hW1]; exact Lib.hid (HZ9.out.far (p := ⟨w4.heap.size, 5, none⟩) (by show w4.heap.size ≠ w.heap.size; omega) _)
    have HC1 : Hid (Cur B A n c g (k + 1 + 1 + 1 + 1 + 1 + 1 + 1) W3) := by rw [hW1]; exact Lib.hid (HC9.out.set (fun e => HNB.out (by rw [e])) (by have := HC9.out.old; omega) 5 _)
    have HG1 : Hid (w.grownBy W3 (some g)) := by rw [hW1]; exact Lib.hid (grown_put HG9.out (Nat.le_of_lt hlt3) 5 _)
    have HSI : Hid ((bg + 1 ≤ s.en ∧ s.en ≤ bg + 25) ∨ s.en = 10001) := Lib.hid (by rw [hu]; exact HTI.out.1)
    clear hW1 hu b fb HC9 HG9 HZ9 HB9
    have a0 := HB1.out.at_ 0 _ rfl
    have a1 := HB1.out.at_ 1 _ rfl
    have a2 := HB1.out.at_ 2 _ rfl
    have a3 := HB1.out.at_ 3 _ rfl
    have a4 := HB1.out.at_ 4 _ rfl
    have a5 := HB1.out.at_ 5 _ rfl
    have z0 := HZ1.out.at_ 0 _ rfl
    have z1 := HZ1.out.at_ 1 _ rfl
    have z2 := HZ1.out.at_ 2 _ rfl
    have z3 := HZ1.out.at_ 3 _ rfl
    have z4 := HZ1.out.at_ 4 _ rfl
    have z5 := HZ1.out.at_ 5 _ rfl
    have f0 := HZ1.out.free 0
    have f1 := HZ1.out.free 1
    have f2 := HZ1.out.free 2
    have f3 := HZ1.out.free 3
    have f4 := HZ1.out.free 4
    have f5 := HZ1.out.free 5
    have HR := Lib.hid (lay6 HZ1.out rfl s)
    have HCR := Lib.hid (HC1.out.kept (setL_grown [.int .i64 s.ln, .int .i64 s.bg, .int .i64 s.en, .int .i64 s.pi, .int .i64 s.bd, .int .i64 s.co] W3 w.heap.size 0) (fun e => HNE.out e.symm) (fun i e => by have := Option.some.inj e; have := HC1.out.old; omega))
    have HGR := Lib.hid (grown_new HG1.out (setL_grown [.int .i64 s.ln, .int .i64 s.bg, .int .i64 s.en, .int .i64 s.pi, .int .i64 s.bd, .int .i64 s.co] W3 w.heap.size 0) (Nat.le_refl _))
    have r0 := HR.out.at_ 0 _ rfl
    have r1 := HR.out.at_ 1 _ rfl
    have r2 := HR.out.at_ 2 _ rfl
    have r3 := HR.out.at_ 3 _ rfl
    have r4 := HR.out.at_ 4 _ rfl
    have r5 := HR.out.at_ 5 _ rfl
    simp only [setL] at r0 r1 r2 r3 r4 r5
    go_wp2_with fail
    refine bodyPost_ret (v := .agg #[.int .i64 s.ln, .int .i64 s.bg, .int .i64 s.en, .int .i64 s.pi, .int .i64 s.bd, .int .i64 s.co]) (by simp [results, Try.results88, go_sem, r0, r1, r2, r3, r4, r5]) rfl ⟨s, _, HSI.out, by omega, by omega, rfl, HCR.out, HGR.out⟩
  have hq5' : ((q : Int) == 5) = false := beq_eq_false_iff_ne.2 (by omega)
  clear htp hte
  have a0 := HB8.out.at_ 0 _ rfl
  have a1 := HB8.out.at_ 1 _ rfl
  have a2 := HB8.out.at_ 2 _ rfl
  have a3 := HB8.out.at_ 3 _ rfl
  have a4 := HB8.out.at_ 4 _ rfl
  have a5 := HB8.out.at_ 5 _ rfl
  have z0 := HZ8.out.at_ 0 _ rfl
  have z1 := HZ8.out.at_ 1 _ rfl
  have z2 := HZ8.out.at_ 2 _ rfl
  have z3 := HZ8.out.at_ 3 _ rfl
  have z4 := HZ8.out.at_ 4 _ rfl
  have z5 := HZ8.out.at_ 5 _ rfl
  have f0 := HZ8.out.free 0
  have f1 := HZ8.out.free 1
  have f2 := HZ8.out.free 2
  have f3 := HZ8.out.free 3
  have f4 := HZ8.out.free 4
  have f5 := HZ8.out.free 5
  have HR := Lib.hid (lay6 HZ8.out rfl t)
  have HCR := Lib.hid (HC8.out.kept (setL_grown [.int .i64 t.ln, .int .i64 t.bg, .int .i64 t.en, .int .i64 t.pi, .int .i64 t.bd, .int .i64 t.co] w8 w.heap.size 0) (fun e => HNE.out e.symm) (fun i e => by have := Option.some.inj e; have := HC8.out.old; omega))
  have HGR := Lib.hid (grown_new HG8.out (setL_grown [.int .i64 t.ln, .int .i64 t.bg, .int .i64 t.en, .int .i64 t.pi, .int .i64 t.bd, .int .i64 t.co] w8 w.heap.size 0) (Nat.le_refl _))
  have r0 := HR.out.at_ 0 _ rfl
  have r1 := HR.out.at_ 1 _ rfl
  have r2 := HR.out.at_ 2 _ rfl
  have r3 := HR.out.at_ 3 _ rfl
  have r4 := HR.out.at_ 4 _ rfl
  have r5 := HR.out.at_ 5 _ rfl
  simp only [setL] at r0 r1 r2 r3 r4 r5
  go_wp2_with fail
  refine bodyPost_ret (v := .agg #[.int .i64 t.ln, .int .i64 t.bg, .int .i64 t.en, .int .i64 t.pi, .int .i64 t.bd, .int .i64 t.co]) (by simp [results, Try.results88, go_sem, r0, r1, r2, r3, r4, r5]) rfl ⟨t, _, HTI.out.1, by omega, by omega, rfl, HCR.out, HGR.out⟩
end Go.Proofs.Ytllfmjnniagjfaa
