/-
  A spot and a box that are drawn: contracts of spec.l1Cur.spot, spec.l1Cur.box over this translation. Conditions: stated at each theorem.
-/
import Derived.Test.YtdmnkmdlochogabRc
import Derived.Deep.RegionHeld3
namespace Go.Proofs.Ytdmnkmdlochogab
open Go.RowKit Go.Sort

def SpotPost (B : Nat) (A : Option Addr) (n c g k : Nat) (w : World) (e : Ending) (w' : World) : Prop :=
  ∃ (x y : Int) (k' : Nat), Low x ∧ Low y ∧ k ≤ k' ∧ k' ≤ k + 4 ∧ e = .returned (.agg #[.int .i64 x, .int .i64 y]) ∧ Cur B A n c g k' w' ∧ w.grownBy w' (some g)
set_option maxHeartbeats 1600000 in
theorem spot_any (B : Nat) (A : Option Addr) (n c g k : Nat) (w : World) (h : Cur B A n c g k w) (hk : k < 900000) :
    Calls Try.prog 144 #[.pointer (some ⟨g, 0, none⟩)] w (SpotPost B A n c g k w) := by
  have HC0 := Lib.hid (h.alloc (.cells #[.int .i64 0, .int .i64 0] 61))
  have hlt := h.lt
  have hold := h.old
  clear h
  go_enter Try.func144, Try.ntmps144
  go_wp2_with fail
  refine (among_at Low _ _ _ _ _ _ _ 7 [0, 10, 20, 30, 50, 100, 1000] _ HC0.out (by simp) (by omega) (by decide) (by decide) (by
    intro x hx; simp only [List.mem_cons, List.not_mem_nil, or_false] at hx; unfold Low; omega)).mono ?_
  rintro e w1 ⟨x, hx, rfl, hc, hg⟩
  have HC1 := Lib.hid hc
  have HG1 := Lib.hid (grown_trans (World.grownBy_alloc _ _ _) hg)
  have HR1 := Lib.hid (has_grown (Has.new w #[.int .i64 0, .int .i64 0] 61) hg (fun e => by have := Option.some.inj e; omega))
  clear hc hg
  go_wp2_with fail
  refine (among_at Low _ _ _ _ _ _ _ 7 [0, 10, 20, 40, 60, 100, 1000] _ HC1.out (rfl) (by omega) (by decide) (by decide) (by
    intro x hx; simp only [List.mem_cons, List.not_mem_nil, or_false] at hx; unfold Low; omega)).mono ?_
  rintro e w2 ⟨y, hy, rfl, hc, hg⟩
  have HC2 := Lib.hid (hc.alloc (.cells #[.int .i64 x, .int .i64 y] 61))
  have HG2 := Lib.hid (grown_trans (grown_trans HG1.out hg) (World.grownBy_alloc _ (.cells #[.int .i64 x, .int .i64 y] 61) _))
  have HR2 := Lib.hid ((has_grown HR1.out hg (fun e => by have := Option.some.inj e; omega)).alloc (.cells #[.int .i64 x, .int .i64 y] 61))
  have HP2 := Lib.hid (Has.new w2 #[.int .i64 x, .int .i64 y] 61)
  have HZ2 := Lib.hid hg.size
  have HL2 := Lib.hid hc.lt
  clear hc hg
  go_wp2_with fail
  refine (one_any _ _ _ _ _ _ 48 _ HC2.out (by omega) (by decide) (by decide)).mono ?_
  rintro e w3 ⟨v, rfl, hc, hg⟩
  have HC3 := Lib.hid hc
  have HG3 := Lib.hid (grown_trans HG2.out hg)
  have HR3 := Lib.hid (has_grown HR2.out hg (fun e => by have := Option.some.inj e; omega))
  have HP3 := Lib.hid (has_grown HP2.out hg (fun e => by have := Option.some.inj e; have := HL2.out; omega))
  clear hc hg
  have hx1 := hx.1
  have hx2 := hx.2
  rcases v with _ | _
  · have r0 := HR3.out.at_ 0 _ rfl
    have r1 := HR3.out.at_ 1 _ rfl
    have f0 := HR3.out.free 0
    have f1 := HR3.out.free 1
    have p0 := HP3.out.at_ 0 _ rfl
    have p1 := HP3.out.at_ 1 _ rfl
    go_wp2_with fail
    refine bodyPost_ret (v := .agg #[.int .i64 x, .int .i64 y]) (by simp [results, Try.results144, go_sem, r0, r1]) rfl ⟨x, y, k + 1 + 1 + 1, hx, hy, by omega, by omega, rfl, ?_, ?_⟩
    · exact (HC3.out.set (by omega) (by omega) 0 _).set (by omega) (by omega) 1 _
    · exact grown_put (grown_put HG3.out (Nat.le_refl _) 0 _) (Nat.le_refl _) 1 _
  · go_wp2_with fail
    refine (among_at Low _ _ _ _ _ _ _ 2 [-1, 1001] _ HC3.out (rfl) (by omega) (by decide) (by decide) (by
      intro x hx; simp only [List.mem_cons, List.not_mem_nil, or_false] at hx; unfold Low; omega)).mono ?_
    rintro e w4 ⟨z, hz, rfl, hc, hg⟩
    have HC4 := Lib.hid hc
    have HG4 := Lib.hid (grown_trans HG3.out hg)
    have HR4 := Lib.hid (has_grown HR3.out hg (fun e => by have := Option.some.inj e; omega))
    have HP4 := Lib.hid (has_grown HP3.out hg (fun e => by have := Option.some.inj e; have := HL2.out; omega))
    clear hc hg
    have r0 := HR4.out.at_ 0 _ rfl
    have r1 := HR4.out.at_ 1 _ rfl
    have f0 := HR4.out.free 0
    have f1 := HR4.out.free 1
    have p0 := HP4.out.at_ 0 _ rfl
    have p1 := HP4.out.at_ 1 _ rfl
    have q0 := HP4.out.free 0
    have hz2 := HZ2.out
    have hne : ¬ w2.heap.size = w.heap.size := by have := HR1.out.1; omega
    have hzw : w.heap.size ≤ w2.heap.size := by have := HR1.out.1; omega
    go_wp2_with fail
    refine bodyPost_ret (v := .agg #[.int .i64 z, .int .i64 y]) (by simp [results, Try.results144, go_sem, r0, r1]) rfl ⟨z, y, k + 1 + 1 + 1 + 1, hz, hy, by omega, by omega, rfl, ?_, ?_⟩
    · exact ((HC4.out.set (by have := HL2.out; omega) (by omega) 0 _).set (by omega) (by omega) 0 _).set (by omega) (by omega) 1 _
    · exact grown_put (grown_put (grown_put HG4.out (by omega) 0 _) (Nat.le_refl _) 0 _) (Nat.le_refl _) 1 _
/-! ### box -/
def Low2 (x : Int) : Prop := -3 ≤ x ∧ x ≤ 3300
def BoxPost (B : Nat) (A : Option Addr) (n c g k : Nat) (w : World) (e : Ending) (w' : World) : Prop :=
  ∃ (x y z u : Int) (k' : Nat), k ≤ k' ∧ k' ≤ k + 7 ∧ e = .returned (.agg #[.int .i64 x, .int .i64 y, .int .i64 z, .int .i64 u]) ∧ Cur B A n c g k' w' ∧ w.grownBy w' (some g)
set_option maxHeartbeats 3200000 in
theorem box_any (B : Nat) (A : Option Addr) (n c g k : Nat) (w : World) (h : Cur B A n c g k w) (hk : k < 900000) :
    Calls Try.prog 83 #[.pointer (some ⟨g, 0, none⟩)] w (BoxPost B A n c g k w) := by
  have HC0 := Lib.hid (h.alloc (.cells #[.int .i64 0, .int .i64 0, .int .i64 0, .int .i64 0] 25))
  have hlt := h.lt
  have hold := h.old
  clear h
  go_enter Try.func83, Try.ntmps83
  go_wp2_with fail
  refine (among_at Low _ _ _ _ _ _ _ 5 [0, 0, 10, 20, 50] _ HC0.out (by simp) (by omega) (by decide) (by decide) (by
    intro x hx; simp only [List.mem_cons, List.not_mem_nil, or_false] at hx; unfold Low; omega)).mono ?_
  rintro e w1 ⟨x, hx, rfl, hc, hg⟩
  have HC1 := Lib.hid hc
  have HG1 := Lib.hid (grown_trans (World.grownBy_alloc _ _ _) hg)
  have HR1 := Lib.hid (has_grown (Has.new w #[.int .i64 0, .int .i64 0, .int .i64 0, .int .i64 0] 25) hg (fun e => by have := Option.some.inj e; omega))
  clear hc hg
  go_wp2_with fail
  refine (among_at Low _ _ _ _ _ _ _ 4 [0, 0, 10, 30] _ HC1.out (rfl) (by omega) (by decide) (by decide) (by
    intro x hx; simp only [List.mem_cons, List.not_mem_nil, or_false] at hx; unfold Low; omega)).mono ?_
  rintro e w2 ⟨y, hy, rfl, hc, hg⟩
  have HC2 := Lib.hid (hc.alloc (.cells #[.int .i64 x, .int .i64 y, .int .i64 0, .int .i64 0] 25))
  have HG2 := Lib.hid (grown_trans (grown_trans HG1.out hg) (World.grownBy_alloc _ (.cells #[.int .i64 x, .int .i64 y, .int .i64 0, .int .i64 0] 25) _))
  have HR2 := Lib.hid ((has_grown HR1.out hg (fun e => by have := Option.some.inj e; omega)).alloc (.cells #[.int .i64 x, .int .i64 y, .int .i64 0, .int .i64 0] 25))
  have HP2 := Lib.hid (Has.new w2 #[.int .i64 x, .int .i64 y, .int .i64 0, .int .i64 0] 25)
  have HZ2 := Lib.hid (show w.heap.size < w2.heap.size by have := HR1.out.1; have := hg.size; omega)
  have HL2 := Lib.hid hc.lt
  clear hc hg
  obtain ⟨W3, hW3⟩ : ∃ W3, W3 = w2.alloc (.cells #[.int .i64 x, .int .i64 y, .int .i64 0, .int .i64 0] 25) := ⟨_, rfl⟩
  rw [← hW3] at HC2 HG2 HR2 HP2
  have hx1 := hx.1
  have hx2 := hx.2
  have hy1 := hy.1
  have hy2 := hy.2
  have HE3 := Lib.hid hW3
  clear hW3
  go_wp2_with fail
  rw [← HE3.out]
  have p0 := HP2.out.at_ 0 _ rfl
  have p1 := HP2.out.at_ 2 _ rfl
  have q1 := HP2.out.free 2
  go_wp2_with fail
  go_region_held3 (fun W => W.cell? ⟨w2.heap.size, 0, none⟩ = some (.int .i64 x) ∧ Hid (w.grownBy W (some g))) (first | with_reducible assumption | exact kD ⟨p0, HG2⟩ | with_reducible exact kA (by assumption) _ | with_reducible exact kD (kA (kD ⟨p0, HG2⟩) _) | with_reducible exact kD (kA ⟨p0, HG2⟩ _) | exact kA (show W3.cell? ⟨w2.heap.size, 0, none⟩ = some (.int .i64 x) ∧ Hid (w.grownBy W3 (some g)) from ⟨p0, HG2⟩) _ | exact HK4 | with_reducible exact kS (by assumption) (Nat.le_of_lt HZ2.out) (by simp) _ | exact kS HK4 (Nat.le_of_lt HZ2.out) (by simp) _) ((go_at_call 84; refine (among_drew Low _ _ _ _ _ _ _ 5 [0, 10, 40, 100, 500] W3 HC2.out (by first | rfl | simp) (by omega) (by decide) (by decide) (by intro x hx; simp only [List.mem_cons, List.not_mem_nil, or_false] at hx; unfold Low; omega)).mono ?_; rintro e w4 ⟨z, hz, rfl, hc, hg⟩; have HC4 := Lib.hid hc; have HG4 := Lib.hid (grown_trans HG2.out hg); have HP4 := Lib.hid (has_grown HP2.out hg (fun e => by have := Option.some.inj e; have := HL2.out; omega)); have HR4 := Lib.hid (has_grown HR2.out hg (fun e => by have := Option.some.inj e; omega)); have HK4 := And.intro (HP4.out.at_ 0 _ rfl) HG4; have sz := HP4.out.at_ 2 _ rfl; have tz := HP4.out.free 2; have bz := hz.1; have dz := hz.2; clear hc hg; dsimp only))
  have hgb : w2.heap.size ≠ g := by have := HL2.out; omega
  have hBb : B ≤ w2.heap.size := by have := HZ2.out; omega
  have hRb : w2.heap.size ≠ w.heap.size := by have := HZ2.out; omega
  obtain ⟨W5, hW5⟩ : ∃ W5, W5 = w4.setCell ⟨w2.heap.size, 2, none⟩ (.int .i64 (IntKind.i64.wrap (x + z))) := ⟨_, rfl⟩
  have HC5 : Hid (Cur B A n c g (k + 1 + 1 + 1) W5) := by rw [hW5]; exact HC4.out.set hgb hBb 2 _
  have HG5 : Hid (w.grownBy W5 (some g)) := by rw [hW5]; exact grown_put HG4.out (Nat.le_of_lt HZ2.out) 2 _
  have HP5 : Hid (Has W5 w2.heap.size [.int .i64 x, .int .i64 y, .int .i64 (IntKind.i64.wrap (x + z)), .int .i64 0]) := by rw [hW5]; exact HP4.out.set 2 _
  have HR5 : Hid (Has W5 w.heap.size [.int .i64 0, .int .i64 0, .int .i64 0, .int .i64 0]) := by rw [hW5]; exact HR4.out.far hRb _
  rw [← hW5]
  clear hW5 p0 p1 q1 sz tz HK4
  have p0 := HP5.out.at_ 1 _ rfl
  have p1 := HP5.out.at_ 3 _ rfl
  have q1 := HP5.out.free 3
  go_wp2_with fail
  go_region_held3 (fun W => W.cell? ⟨w2.heap.size, 1, none⟩ = some (.int .i64 y) ∧ Hid (w.grownBy W (some g))) (first | with_reducible assumption | exact kD ⟨p0, HG5⟩ | with_reducible exact kA (by assumption) _ | with_reducible exact kD (kA (kD ⟨p0, HG5⟩) _) | with_reducible exact kD (kA ⟨p0, HG5⟩ _) | exact kA (show W5.cell? ⟨w2.heap.size, 1, none⟩ = some (.int .i64 y) ∧ Hid (w.grownBy W5 (some g)) from ⟨p0, HG5⟩) _ | exact HK6 | with_reducible exact kS (by assumption) (Nat.le_of_lt HZ2.out) (by simp) _ | exact kS HK6 (Nat.le_of_lt HZ2.out) (by simp) _) ((go_at_call 84; refine (among_drew Low _ _ _ _ _ _ _ 5 [0, 10, 40, 100, 500] W5 HC5.out (by first | rfl | simp) (by omega) (by decide) (by decide) (by intro x hx; simp only [List.mem_cons, List.not_mem_nil, or_false] at hx; unfold Low; omega)).mono ?_; rintro e w6 ⟨u, hu, rfl, hc, hg⟩; have HC6 := Lib.hid hc; have HG6 := Lib.hid (grown_trans HG5.out hg); have HP6 := Lib.hid (has_grown HP5.out hg (fun e => by have := Option.some.inj e; have := HL2.out; omega)); have HR6 := Lib.hid (has_grown HR5.out hg (fun e => by have := Option.some.inj e; omega)); have HK6 := And.intro (HP6.out.at_ 1 _ rfl) HG6; have su := HP6.out.at_ 3 _ rfl; have tu := HP6.out.free 3; have bu := hu.1; have du := hu.2; clear hc hg; dsimp only))
  obtain ⟨W7, hW7⟩ : ∃ W7, W7 = w6.setCell ⟨w2.heap.size, 3, none⟩ (.int .i64 (IntKind.i64.wrap (y + u))) := ⟨_, rfl⟩
  have HC7 : Hid (Cur B A n c g (k + 1 + 1 + 1 + 1) W7) := by rw [hW7]; exact HC6.out.set hgb hBb 3 _
  have HG7 : Hid (w.grownBy W7 (some g)) := by rw [hW7]; exact grown_put HG6.out (Nat.le_of_lt HZ2.out) 3 _
  have HP7 : Hid (Has W7 w2.heap.size [.int .i64 x, .int .i64 y, .int .i64 (IntKind.i64.wrap (x + z)), .int .i64 (IntKind.i64.wrap (y + u))]) := by rw [hW7]; exact HP6.out.set 3 _
  have HR7 : Hid (Has W7 w.heap.size [.int .i64 0, .int .i64 0, .int .i64 0, .int .i64 0]) := by rw [hW7]; exact HR6.out.far hRb _
  rw [← hW7]
  clear hW7 p0 p1 q1 su tu HK6
  go_wp2_with fail
  refine (pick_any _ _ _ _ _ _ 24 _ HC7.out (by omega) (by decide) (by decide)).mono ?_
  rintro e w8 ⟨v, hv, rfl, hc, hg⟩
  have HC8 := Lib.hid hc
  have HG8 := Lib.hid (grown_trans HG7.out hg)
  have HP8 := Lib.hid (has_grown HP7.out hg (fun e => hgb (Option.some.inj e)))
  have HR8 := Lib.hid (has_grown HR7.out hg (fun e => by have := Option.some.inj e; omega))
  clear hc hg
  have hRg : ¬ w.heap.size = g := by omega
  have hne1 : ¬ w2.heap.size = w.heap.size := hRb
  have hne2 : ¬ w.heap.size = w2.heap.size := fun e => hRb e.symm
  rcases Nat.eq_zero_or_pos v with h0 | h0
  · subst h0
    go_wp2_with fail
    refine (among_at Low _ _ _ _ _ _ _ 2 [-1, 1001] _ HC8.out (rfl) (by omega) (by decide) (by decide) (by
      intro x hx; simp only [List.mem_cons, List.not_mem_nil, or_false] at hx; unfold Low; omega)).mono ?_
    rintro e w9 ⟨t, ht, rfl, hc, hg⟩
    have HC9 := Lib.hid hc
    have HG9 := Lib.hid (grown_trans HG8.out hg)
    have HP9 := Lib.hid (has_grown HP8.out hg (fun e => hgb (Option.some.inj e)))
    have HR9 := Lib.hid (has_grown HR8.out hg (fun e => by have := Option.some.inj e; omega))
    clear hc hg
    have p0 := HP9.out.at_ 0 _ rfl
    have p1 := HP9.out.at_ 1 _ rfl
    have p2 := HP9.out.at_ 2 _ rfl
    have p3 := HP9.out.at_ 3 _ rfl
    have r0 := HR9.out.at_ 0 _ rfl
    have r1 := HR9.out.at_ 1 _ rfl
    have r2 := HR9.out.at_ 2 _ rfl
    have r3 := HR9.out.at_ 3 _ rfl
    have f0 := HR9.out.free 0
    have f1 := HR9.out.free 1
    have f2 := HR9.out.free 2
    have f3 := HR9.out.free 3
    have q0 := HP9.out.free 0
    have hzw := Nat.le_of_lt HZ2.out
    go_wp2_with fail
    refine bodyPost_ret (v := .agg #[.int .i64 t, .int .i64 y, .int .i64 (x + z), .int .i64 (y + u)]) (by simp [results, Try.results83, go_sem, r0, r1, r2, r3]) rfl ⟨_, _, _, _, k + 6, by omega, by omega, rfl, ?_, ?_⟩
    · exact ((((HC9.out.set hgb hBb 0 _).set (by omega) (by omega) 0 _).set (by omega) (by omega) 1 _).set (by omega) (by omega) 2 _).set (by omega) (by omega) 3 _
    · exact grown_put (grown_put (grown_put (grown_put (grown_put HG9.out hzw 0 _) (Nat.le_refl _) 0 _) (Nat.le_refl _) 1 _) (Nat.le_refl _) 2 _) (Nat.le_refl _) 3 _
  · have hv0 : ((v : Int) == 0) = false := beq_eq_false_iff_ne.2 (by omega)
    by_cases h1 : v = 1
    · subst h1
      have p0 := HP8.out.at_ 0 _ rfl
      have p1 := HP8.out.at_ 1 _ rfl
      have p2 := HP8.out.at_ 2 _ rfl
      have p3 := HP8.out.at_ 3 _ rfl
      have r0 := HR8.out.at_ 0 _ rfl
      have r1 := HR8.out.at_ 1 _ rfl
      have r2 := HR8.out.at_ 2 _ rfl
      have r3 := HR8.out.at_ 3 _ rfl
      have f0 := HR8.out.free 0
      have f1 := HR8.out.free 1
      have f2 := HR8.out.free 2
      have f3 := HR8.out.free 3
      have q3 := HP8.out.free 3
      have hzw := Nat.le_of_lt HZ2.out
      go_wp2_with fail
      refine bodyPost_ret (v := .agg #[.int .i64 x, .int .i64 y, .int .i64 (x + z), .int .i64 (y - 1)]) (by simp [results, Try.results83, go_sem, r0, r1, r2, r3]) rfl ⟨_, _, _, _, k + 5, by omega, by omega, rfl, ?_, ?_⟩
      · exact ((((HC8.out.set hgb hBb 3 _).set (by omega) (by omega) 0 _).set (by omega) (by omega) 1 _).set (by omega) (by omega) 2 _).set (by omega) (by omega) 3 _
      · exact grown_put (grown_put (grown_put (grown_put (grown_put HG8.out hzw 3 _) (Nat.le_refl _) 0 _) (Nat.le_refl _) 1 _) (Nat.le_refl _) 2 _) (Nat.le_refl _) 3 _
    · have hv1 : ((v : Int) == 1) = false := beq_eq_false_iff_ne.2 (by omega)
      have p0 := HP8.out.at_ 0 _ rfl
      have p1 := HP8.out.at_ 1 _ rfl
      have p2 := HP8.out.at_ 2 _ rfl
      have p3 := HP8.out.at_ 3 _ rfl
      have r0 := HR8.out.at_ 0 _ rfl
      have r1 := HR8.out.at_ 1 _ rfl
      have r2 := HR8.out.at_ 2 _ rfl
      have r3 := HR8.out.at_ 3 _ rfl
      have f0 := HR8.out.free 0
      have f1 := HR8.out.free 1
      have f2 := HR8.out.free 2
      have f3 := HR8.out.free 3
      go_wp2_with fail
      refine bodyPost_ret (v := .agg #[.int .i64 x, .int .i64 y, .int .i64 (x + z), .int .i64 (y + u)]) (by simp [results, Try.results83, go_sem, r0, r1, r2, r3]) rfl ⟨_, _, _, _, k + 5, by omega, by omega, rfl, ?_, ?_⟩
      · exact (((HC8.out.set (by omega) (by omega) 0 _).set (by omega) (by omega) 1 _).set (by omega) (by omega) 2 _).set (by omega) (by omega) 3 _
      · exact grown_put (grown_put (grown_put (grown_put HG8.out (Nat.le_refl _) 0 _) (Nat.le_refl _) 1 _) (Nat.le_refl _) 2 _) (Nat.le_refl _) 3 _
end Go.Proofs.Ytdmnkmdlochogab
