/-
  A spot and a box that are drawn: contracts of spec.l1Cur.spot, spec.l1Cur.box over this translation. Conditions: stated at each theorem.
-/
import Derived.Test.YtklbefdpfhidkaaDoorRc
import Derived.Deep.RegionHeld3
namespace Go.Proofs.YtklbefdpfhidkaaDoor
open Go.RowKit Go.Sort

def SpotPost (B : Nat) (A : Option Addr) (n c g k : Nat) (w : World) (e : Ending) (w' : World) : Prop :=
  ∃ (x y : Int) (k' : Nat), Low x ∧ Low y ∧ k ≤ k' ∧ k' ≤ k + 4 ∧ e = .returned (.agg #[.int .i64 x, .int .i64 y]) ∧ Cur B A n c g k' w' ∧ w.grownBy w' (some g)
set_option maxHeartbeats 1600000 in
theorem spot_any (B : Nat) (A : Option Addr) (n c g k : Nat) (w : World) (h : Cur B A n c g k w) (hk : k < 900000) :
    Calls Tryd.prog 61 #[.pointer (some ⟨g, 0, none⟩)] w (SpotPost B A n c g k w) := by
  have HC0 := Lib.hid (h.alloc (.cells #[.int .i64 0, .int .i64 0] 25))
  have hlt := h.lt
  have hold := h.old
  clear h
  go_enter Tryd.func61, Tryd.ntmps61
  go_wp2_with fail
  refine (among_at Low _ _ _ _ _ _ _ 7 [0, 10, 20, 30, 50, 100, 1000] _ HC0.out (by simp) (by omega) (by decide) (by decide) (by
    intro x hx; simp only [List.mem_cons, List.not_mem_nil, or_false] at hx; unfold Low; omega)).mono ?_
  rintro e w1 ⟨x, hx, rfl, hc, hg⟩
  have HC1 := Lib.hid hc
  have HG1 := Lib.hid (grown_trans (World.grownBy_alloc _ _ _) hg)
  have HR1 := Lib.hid (has_grown (Has.new w #[.int .i64 0, .int .i64 0] 25) hg (fun e => by have := Option.some.inj e; omega))
  clear hc hg
  go_wp2_with fail
  refine (among_at Low _ _ _ _ _ _ _ 7 [0, 10, 20, 40, 60, 100, 1000] _ HC1.out (rfl) (by omega) (by decide) (by decide) (by
    intro x hx; simp only [List.mem_cons, List.not_mem_nil, or_false] at hx; unfold Low; omega)).mono ?_
  rintro e w2 ⟨y, hy, rfl, hc, hg⟩
  have HC2 := Lib.hid (hc.alloc (.cells #[.int .i64 x, .int .i64 y] 25))
  have HG2 := Lib.hid (grown_trans (grown_trans HG1.out hg) (World.grownBy_alloc _ (.cells #[.int .i64 x, .int .i64 y] 25) _))
  have HR2 := Lib.hid ((has_grown HR1.out hg (fun e => by have := Option.some.inj e; omega)).alloc (.cells #[.int .i64 x, .int .i64 y] 25))
  have HP2 := Lib.hid (Has.new w2 #[.int .i64 x, .int .i64 y] 25)
  have HZ2 := Lib.hid hg.size
  have HL2 := Lib.hid hc.lt
  clear hc hg
  go_wp2_with fail
  refine (one_any _ _ _ _ _ _ 48 _ HC2.out (by omega) (by decide) (by decide)).mono ?_
  rintro e w3 ⟨v, rfl, hc, hg⟩
  have HC3 := Lib.hid hc
  have HG3 := Lib.hid (grown_trans HG2.out hg)
  have HR3 := Lib.hid (has_grown HR2.out hg (fun e => by have := Option.some.inj e; omega))
  have HP3 := Lib.hid (has_grown HP2.out hg (fun e => by have := Option.some.inj e; have := HL2.out; omega))
  clear hc hg
  have hx1 := hx.1
  have hx2 := hx.2
  rcases v with _ | _
  · have r0 := HR3.out.at_ 0 _ rfl
    have r1 := HR3.out.at_ 1 _ rfl
    have f0 := HR3.out.free 0
    have f1 := HR3.out.free 1
    have p0 := HP3.out.at_ 0 _ rfl
    have p1 := HP3.out.at_ 1 _ rfl
    go_wp2_with fail
    refine bodyPost_ret (v := .agg #[.int .i64 x, .int .i64 y]) (by simp [results, Tryd.results61, go_sem, r0, r1]) rfl ⟨x, y, k + 1 + 1 + 1, hx, hy, by omega, by omega, rfl, ?_, ?_⟩
    · exact (HC3.out.set (by omega) (by omega) 0 _).set (by omega) (by omega) 1 _
    · exact grown_put (grown_put HG3.out (Nat.le_refl _) 0 _) (Nat.le_refl _) 1 _
  · go_wp2_with fail
    refine (among_at Low _ _ _ _ _ _ _ 2 [-1, 1001] _ HC3.out (rfl) (by omega) (by decide) (by decide) (by
      intro x hx; simp only [List.mem_cons, List.not_mem_nil, or_false] at hx; unfold Low; omega)).mono ?_
    rintro e w4 ⟨z, hz, rfl, hc, hg⟩
    have HC4 := Lib.hid hc
    have HG4 := Lib.hid (grown_trans HG3.out hg)
    have HR4 := Lib.hid (has_grown HR3.out hg (fun e => by have := Option.some.inj e; omega))
    have HP4 := Lib.hid (has_grown HP3.out hg (fun e => by have := Option.some.inj e; have := HL2.out; omega))
    clear hc hg
    have r0 := HR4.out.at_ 0 _ rfl
    have r1 := HR4.out.at_ 1 _ rfl
    have f0 := HR4.out.free 0
    have f1 := HR4.out.free 1
    have p0 := HP4.out.at_ 0 _ rfl
    have p1 := HP4.out.at_ 1 _ rfl
    have q0 := HP4.out.free 0
    have hz2 := HZ2.out
    have hne : ¬ w2.heap.size = w.heap.size := by have := HR1.out.1; omega
    have hzw : w.heap.size ≤ w2.heap.size := by have := HR1.out.1; omega
    go_wp2_with fail
    refine bodyPost_ret (v := .agg #[.int .i64 z, .int .i64 y]) (by simp [results, Tryd.results61, go_sem, r0, r1]) rfl ⟨z, y, k + 1 + 1 + 1 + 1, hz, hy, by omega, by omega, rfl, ?_, ?_⟩
    · exact ((HC4.out.set (by have := HL2.out; omega) (by omega) 0 _).set (by omega) (by omega) 0 _).set (by omega) (by omega) 1 _
    · exact grown_put (grown_put (grown_put HG4.out (by omega) 0 _) (Nat.le_refl _) 0 _) (Nat.le_refl _) 1 _
/-! ### box -/
end Go.Proofs.YtklbefdpfhidkaaDoor
