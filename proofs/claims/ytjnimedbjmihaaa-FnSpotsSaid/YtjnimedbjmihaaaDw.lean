/-
  Contracts of spec.DrawAreSpots, spec.DrawBoxOf, spec.DrawNearestSpot, spec.DrawSpotsIn and of laws.vInts over this translation. Conditions: stated at each theorem.
-/
import Derived.Test.YtjnimedbjmihaaaDs
namespace Go.Proofs.Ytjnimedbjmihaaa
open Go.RowKit Go.Sort

theorem spots_of_own {W : World} {B cap : Nat} {R : Option Addr} {l : List (Int × Int)} (h : W.ownsRow B 26 2 (.slice R l.length cap) l.length (cellsOf l)) : Spots W W.heap.size R l.length l := by
  refine ⟨rfl, fun k hk => ?_⟩
  have hcells := fun g e => h.cells (g := g) e
  have hlt := h.lt
  rcases h.2 with ⟨h1, h2⟩ | ⟨g, cap', cur, hv, _⟩
  · omega
  · obtain ⟨rfl, -, -⟩ := Value.slice.inj hv
    have hx : l[k]? = some (l[k].1, l[k].2) := List.getElem?_eq_getElem hk
    have hc := cellsOf_at l k _ _ hx
    have c0 := hcells g rfl _ _ hc.1
    have c1 := hcells g rfl _ _ hc.2
    rw [Addr.add_lit, Nat.zero_add] at c0 c1
    exact ⟨g, 0, _, _, rfl, (hlt g rfl).2, hx, by rw [Nat.zero_add]; exact c0, by rw [Nat.zero_add]; exact c1⟩
theorem own_cap {W : World} {B n cap : Nat} {T : TypeId} {z : Nat} {R : Option Addr} {xs : List Value} (h : W.ownsRow B T z (.slice R n cap) n xs) : n ≤ cap := by
  rcases h.2 with ⟨h1, h2⟩ | ⟨g, cap', cur, hv, _, _, hc, _⟩
  · omega
  · obtain ⟨-, -, rfl⟩ := Value.slice.inj hv
    exact hc
def RowPost (w : World) (e : Ending) (w' : World) : Prop :=
  ∃ (R : Option Addr) (cap : Nat) (l : List (Int × Int)), l.length ≤ 13 ∧ e = .returned (.slice R l.length cap) ∧ Spots w' w'.heap.size R l.length l ∧ l.length ≤ cap ∧ Below w.heap.size w w'
def RowSpot (w : World) (e : Ending) (w' : World) : Prop :=
  ∃ (R : Option Addr) (cap : Nat) (l : List (Int × Int)) (x y : Int), l.length ≤ 13 ∧ e = .returned (.tuple #[.slice R l.length cap, .agg #[.int .i64 x, .int .i64 y]]) ∧ Spots w' w'.heap.size R l.length l ∧ l.length ≤ cap ∧ Below w.heap.size w w'
def RowBox (w : World) (e : Ending) (w' : World) : Prop :=
  ∃ (R : Option Addr) (cap : Nat) (l : List (Int × Int)) (a b c d : Int), l.length ≤ 13 ∧ e = .returned (.tuple #[.slice R l.length cap, .agg #[.int .i64 a, .int .i64 b, .int .i64 c, .int .i64 d]]) ∧ Spots w' w'.heap.size R l.length l ∧ l.length ≤ cap ∧ Below w.heap.size w w'
theorem draw_are (A : Option Addr) (n c : Nat) (w : World) (h : CodeRow w.heap.size A n w) : Calls Try.prog 63 #[.slice A n c] w (RowPost w) := by
  have HC0 := Lib.hid (cur_new w A n c 76 h)
  have HB := Lib.hid ((Below.refl w.heap.size w).alloc (Nat.le_refl _) (.cells #[.slice A n c, .int .i64 0, .int .u64 0] 76))
  clear h
  go_enter Try.func63, Try.ntmps63
  go_wp2_with fail
  refine (spots_any _ _ _ _ _ _ _ HC0.out (by omega)).mono ?_
  rintro e w1 ⟨R, m, cap, k0, hm, ka0, kb0, rfl, hG⟩
  obtain ⟨l, rfl, ho, hc, hg, hlt⟩ := hG
  have HO := Lib.hid ho
  have HB := Lib.hid (below_of HB.out hg HB.out.size (by omega))
  clear hc hg ho hlt
  go_wp2_with fail
  go_ret
  exact ⟨R, cap, l, hm, rfl, spots_of_own HO.out, own_cap HO.out, HB.out⟩
theorem draw_bo (A : Option Addr) (n c : Nat) (w : World) (h : CodeRow w.heap.size A n w) : Calls Try.prog 27 #[.slice A n c] w (RowPost w) := by
  have HD := Lib.hid (draw_are A n c w h)
  clear h
  go_enter Try.func27, Try.ntmps27
  go_wp2_with fail
  refine HD.out.mono ?_
  rintro e w1 ⟨R, cap, l, hm, rfl, hs, hc, hb⟩
  have HS := Lib.hid (And.intro hs (And.intro hc hb))
  clear hs hb
  go_wp2_with fail
  go_ret
  exact ⟨R, cap, l, hm, rfl, HS.out⟩
set_option maxHeartbeats 800000 in
theorem draw_near (A : Option Addr) (n c : Nat) (w : World) (h : CodeRow w.heap.size A n w) : Calls Try.prog 16 #[.slice A n c] w (RowSpot w) := by
  obtain ⟨W0, hW0⟩ : ∃ W0, W0 = w.alloc (.cells #[.int .i64 0, .int .i64 0] 26) := ⟨_, rfl⟩
  have HB0 : Hid (Below w.heap.size w W0 ∧ W0.heap.size = w.heap.size + 1 ∧ Has W0 (w.heap.size) [.int .i64 0, .int .i64 0]) := by
    rw [hW0]
    exact ⟨(box1 (Below.refl _ _)).1, by simp, (box1 (Below.refl _ _)).2⟩
  have HE := Lib.hid hW0
  have hz := HB0.out.2.1
  have HC0 : Hid (Cur (w.heap.size + 1) A n c (w.heap.size + 1) 0 (W0.alloc (.cells #[.slice A n c, .int .i64 0, .int .u64 0] 76))) := by
    have := cur_new W0 A n c 76 (h.below HB0.out.1 HB0.out.1.size)
    rw [hz] at this
    exact this
  have HB := Lib.hid (HB0.out.1.alloc HB0.out.1.size (.cells #[.slice A n c, .int .i64 0, .int .u64 0] 76))
  have HR0 := Lib.hid (HB0.out.2.2.alloc (.cells #[.slice A n c, .int .i64 0, .int .u64 0] 76))
  have HZ : Hid (w.heap.size < (W0.alloc (.cells #[.slice A n c, .int .i64 0, .int .u64 0] 76)).heap.size) := by unfold Hid; simp; omega
  clear hW0 h hz
  go_enter Try.func16, Try.ntmps16
  go_wp2_with fail
  rw [← HE.out]
  refine (spots_any _ _ _ _ _ _ _ HC0.out (by omega)).mono ?_
  rintro e w1 ⟨R, m, cap, k0, hm, ka0, kb0, rfl, hG⟩
  obtain ⟨l, rfl, ho, hc, hg, hlt⟩ := hG
  have HC1 := Lib.hid hc
  have HO := Lib.hid ho
  have HB := Lib.hid (below_of HB.out hg HB.out.size (by omega))
  have HR0 := Lib.hid (has_grown HR0.out hg (fun e => by have := Option.some.inj e; omega))
  have HL := Lib.hid hlt
  clear hc hg ho hlt
  go_wp2_with fail
  refine (spot_any _ _ _ _ _ _ _ HC1.out (by omega)).mono ?_
  rintro e w2 ⟨v0, v1, k1, _, _, ka1, kb1, rfl, hc, hg⟩
  have HO := Lib.hid (own_any HO.out hg (fun i e => by have := Option.some.inj e; have := HL.out; omega))
  have HB := Lib.hid (below_of HB.out hg HB.out.size (by omega))
  have HR0 := Lib.hid (has_grown HR0.out hg (fun e => by have := Option.some.inj e; omega))
  clear hc hg
  have r0 := HR0.out.at_ 0 _ rfl
  have f0 := HR0.out.free 0
  have r1 := HR0.out.at_ 1 _ rfl
  have f1 := HR0.out.free 1
  go_wp2_with fail
  have HF := Lib.hid ((HR0.out.set 0 (.int .i64 v0)).set 1 (.int .i64 v1))
  have HBF := Lib.hid ((HB.out.setCell (p := ⟨w.heap.size, 0, none⟩) (by simp) (.int .i64 v0)).setCell (p := ⟨w.heap.size, 1, none⟩) (by simp) (.int .i64 v1))
  have HOF := Lib.hid (own_any (own_any HO.out (set_grown _ w.heap.size 0 (.int .i64 v0)) (fun i e => by have := Option.some.inj e; have := HZ.out; omega)) (set_grown _ w.heap.size 1 (.int .i64 v1)) (fun i e => by have := Option.some.inj e; have := HZ.out; omega))
  clear r0 f0 r1 f1
  obtain ⟨Wf, hWf⟩ : ∃ Wf, Wf = ((w2.setCell ⟨w.heap.size, 0, none⟩ (.int .i64 v0)).setCell ⟨w.heap.size, 1, none⟩ (.int .i64 v1)) := ⟨_, rfl⟩
  rw [← hWf] at HF HBF HOF
  rw [← hWf]
  clear hWf
  have r0 : Wf.cell? ⟨w.heap.size, 0, none⟩ = some (.int .i64 v0) := HF.out.at_ 0 _ rfl
  have r1 : Wf.cell? ⟨w.heap.size, 1, none⟩ = some (.int .i64 v1) := HF.out.at_ 1 _ rfl
  refine bodyPost_ret (v := .tuple #[.slice R l.length cap, .agg #[.int .i64 v0, .int .i64 v1]]) (by simp [results, Try.results16, go_sem, r0, r1]) rfl ⟨R, cap, l, v0, v1, hm, rfl, spots_of_own HOF.out, own_cap HOF.out, HBF.out⟩
set_option maxHeartbeats 800000 in
theorem draw_in (A : Option Addr) (n c : Nat) (w : World) (h : CodeRow w.heap.size A n w) : Calls Try.prog 29 #[.slice A n c] w (RowBox w) := by
  obtain ⟨W0, hW0⟩ : ∃ W0, W0 = w.alloc (.cells #[.int .i64 0, .int .i64 0, .int .i64 0, .int .i64 0] 35) := ⟨_, rfl⟩
  have HB0 : Hid (Below w.heap.size w W0 ∧ W0.heap.size = w.heap.size + 1 ∧ Has W0 (w.heap.size) [.int .i64 0, .int .i64 0, .int .i64 0, .int .i64 0]) := by
    rw [hW0]
    exact ⟨(box1 (Below.refl _ _)).1, by simp, (box1 (Below.refl _ _)).2⟩
  have HE := Lib.hid hW0
  have hz := HB0.out.2.1
  have HC0 : Hid (Cur (w.heap.size + 1) A n c (w.heap.size + 1) 0 (W0.alloc (.cells #[.slice A n c, .int .i64 0, .int .u64 0] 76))) := by
    have := cur_new W0 A n c 76 (h.below HB0.out.1 HB0.out.1.size)
    rw [hz] at this
    exact this
  have HB := Lib.hid (HB0.out.1.alloc HB0.out.1.size (.cells #[.slice A n c, .int .i64 0, .int .u64 0] 76))
  have HR0 := Lib.hid (HB0.out.2.2.alloc (.cells #[.slice A n c, .int .i64 0, .int .u64 0] 76))
  have HZ : Hid (w.heap.size < (W0.alloc (.cells #[.slice A n c, .int .i64 0, .int .u64 0] 76)).heap.size) := by unfold Hid; simp; omega
  clear hW0 h hz
  go_enter Try.func29, Try.ntmps29
  go_wp2_with fail
  rw [← HE.out]
  refine (spots_any _ _ _ _ _ _ _ HC0.out (by omega)).mono ?_
  rintro e w1 ⟨R, m, cap, k0, hm, ka0, kb0, rfl, hG⟩
  obtain ⟨l, rfl, ho, hc, hg, hlt⟩ := hG
  have HC1 := Lib.hid hc
  have HO := Lib.hid ho
  have HB := Lib.hid (below_of HB.out hg HB.out.size (by omega))
  have HR0 := Lib.hid (has_grown HR0.out hg (fun e => by have := Option.some.inj e; omega))
  have HL := Lib.hid hlt
  clear hc hg ho hlt
  go_wp2_with fail
  refine (box_any _ _ _ _ _ _ _ HC1.out (by omega)).mono ?_
  rintro e w2 ⟨v0, v1, v2, v3, k1, ka1, kb1, rfl, hc, hg⟩
  have HO := Lib.hid (own_any HO.out hg (fun i e => by have := Option.some.inj e; have := HL.out; omega))
  have HB := Lib.hid (below_of HB.out hg HB.out.size (by omega))
  have HR0 := Lib.hid (has_grown HR0.out hg (fun e => by have := Option.some.inj e; omega))
  clear hc hg
  have r0 := HR0.out.at_ 0 _ rfl
  have f0 := HR0.out.free 0
  have r1 := HR0.out.at_ 1 _ rfl
  have f1 := HR0.out.free 1
  have r2 := HR0.out.at_ 2 _ rfl
  have f2 := HR0.out.free 2
  have r3 := HR0.out.at_ 3 _ rfl
  have f3 := HR0.out.free 3
  go_wp2_with fail
  have HF := Lib.hid ((((HR0.out.set 0 (.int .i64 v0)).set 1 (.int .i64 v1)).set 2 (.int .i64 v2)).set 3 (.int .i64 v3))
  have HBF := Lib.hid ((((HB.out.setCell (p := ⟨w.heap.size, 0, none⟩) (by simp) (.int .i64 v0)).setCell (p := ⟨w.heap.size, 1, none⟩) (by simp) (.int .i64 v1)).setCell (p := ⟨w.heap.size, 2, none⟩) (by simp) (.int .i64 v2)).setCell (p := ⟨w.heap.size, 3, none⟩) (by simp) (.int .i64 v3))
  have HOF := Lib.hid (own_any (own_any (own_any (own_any HO.out (set_grown _ w.heap.size 0 (.int .i64 v0)) (fun i e => by have := Option.some.inj e; have := HZ.out; omega)) (set_grown _ w.heap.size 1 (.int .i64 v1)) (fun i e => by have := Option.some.inj e; have := HZ.out; omega)) (set_grown _ w.heap.size 2 (.int .i64 v2)) (fun i e => by have := Option.some.inj e; have := HZ.out; omega)) (set_grown _ w.heap.size 3 (.int .i64 v3)) (fun i e => by have := Option.some.inj e; have := HZ.out; omega))
  clear r0 f0 r1 f1 r2 f2 r3 f3
  obtain ⟨Wf, hWf⟩ : ∃ Wf, Wf = ((((w2.setCell ⟨w.heap.size, 0, none⟩ (.int .i64 v0)).setCell ⟨w.heap.size, 1, none⟩ (.int .i64 v1)).setCell ⟨w.heap.size, 2, none⟩ (.int .i64 v2)).setCell ⟨w.heap.size, 3, none⟩ (.int .i64 v3)) := ⟨_, rfl⟩
  rw [← hWf] at HF HBF HOF
  rw [← hWf]
  clear hWf
  have r0 : Wf.cell? ⟨w.heap.size, 0, none⟩ = some (.int .i64 v0) := HF.out.at_ 0 _ rfl
  have r1 : Wf.cell? ⟨w.heap.size, 1, none⟩ = some (.int .i64 v1) := HF.out.at_ 1 _ rfl
  have r2 : Wf.cell? ⟨w.heap.size, 2, none⟩ = some (.int .i64 v2) := HF.out.at_ 2 _ rfl
  have r3 : Wf.cell? ⟨w.heap.size, 3, none⟩ = some (.int .i64 v3) := HF.out.at_ 3 _ rfl
  refine bodyPost_ret (v := .tuple #[.slice R l.length cap, .agg #[.int .i64 v0, .int .i64 v1, .int .i64 v2, .int .i64 v3]]) (by simp [results, Try.results29, go_sem, r0, r1, r2, r3]) rfl ⟨R, cap, l, v0, v1, v2, v3, hm, rfl, spots_of_own HOF.out, own_cap HOF.out, HBF.out⟩
/-! ### laws.vInts -/
set_option maxHeartbeats 800000 in
theorem vI_same (A A' : Option Addr) (n c c' lo hi lo' hi' : Nat) (f : Nat → Int) (w : World) (h1 : IFun w lo hi A n f) (h2 : IFun w lo' hi' A' n f) (hm : n ≤ 1048576) :
    Calls Try.prog 31 #[.slice A n c, .slice A' n c'] w fun e w' => e = .returned (.bool true) ∧ ∃ k, w' = w.drewN k := by
  have H1 := Lib.hid h1
  have H2 := Lib.hid h2
  clear h1 h2
  go_enter Try.func31, Try.ntmps31
  go_wp2
  go_loopw [5] (fun i wr => ∃ k d : Nat, k ≤ n ∧ i = .int .i64 k ∧ wr = w.drewN d) (fun i _ => n - (intOf i).toNat)
  case atStart => exact ⟨0, 0, Nat.zero_le _, rfl, by rw [World.drewN_zero]⟩
  case round =>
    obtain ⟨k, d, hk, rfl, rfl⟩ := hrel
    by_cases hlt : k < n
    · obtain ⟨g, rfl, _, _, hc1, _⟩ := H1.out k hlt
      obtain ⟨g', rfl, _, _, hc2, _⟩ := H2.out k hlt
      go_wp2_with fail
      go_quiet (fail)
      go_wp2
      go_roundw
      case rel => exact ⟨k + 1, _, by omega, by go_num, rfl⟩
      case measure => simp [intOf]; omega
    · go_wp2
      go_ret
      exact ⟨rfl, _, rfl⟩
end Go.Proofs.Ytjnimedbjmihaaa
