/-
  Contracts of the small functions on numbers, spots and boxes over this translation: spec.l1In, impl.isWithin, spec.l2Grid, spec.l2Spot, spec.IsSpot, impl.IsSpot, laws.toSpot. Conditions: stated at each theorem.
-/
import Derived.Test.YtjnimedbjmihaaaRows
import Derived.WalkKit
import Derived.Lib.Hide
import Derived.Deep.QuietTactic
import Derived.BigQuiet
import Derived.IntWalk
namespace Go.Proofs.Ytjnimedbjmihaaa
open Go.RowKit

theorem ret_bool {a b : Bool} (h : a = b) : Ending.returned (.bool a) = .returned (.bool b) := by rw [h]
theorem ret_int {k : IntKind} {a b : Int} (h : a = b) : Ending.returned (.int k a) = .returned (.int k b) := by rw [h]

/-- Block g holds the values cs from its head on, and may be written. -/
def Has (w : World) (g : Nat) (cs : List Value) : Prop := g < w.heap.size ∧ (∀ j u, cs[j]? = some u → w.cell? ⟨g, j, none⟩ = some u) ∧ ∀ j, w.frozen? ⟨g, j, none⟩ = false
theorem Has.on {w w' : World} {g B : Nat} {cs : List Value} (h : Has w g cs) (hb : Below B w w') (hg : g < B) : Has w' g cs :=
  ⟨Nat.lt_of_lt_of_le h.1 hb.size, fun j u hu => (hb.cell (p := ⟨g, j, none⟩) hg).trans (h.2.1 j u hu), fun j => (hb.frozen (p := ⟨g, j, none⟩) hg).trans (h.2.2 j)⟩
theorem Has.next {w w' : World} {g : Nat} {cs : List Value} (h : Has w g cs) (hb : Below w.heap.size w w') : Has w' g cs := h.on hb h.1
theorem Has.new (w : World) (cs : Array Value) (T : TypeId) : Has (w.alloc (.cells cs T)) w.heap.size cs.toList :=
  ⟨by simp, fun j u hu => by rw [World.cell?_alloc_new]; simpa using hu, fun j => World.frozen?_alloc_at _ _ _ _ rfl⟩
theorem Has.alloc {w : World} {g : Nat} {cs : List Value} (h : Has w g cs) (o : Obj) : Has (w.alloc o) g cs :=
  h.next ((Below.refl _ _).alloc (Nat.le_refl _) o)
theorem Has.drew {w : World} {g : Nat} {cs : List Value} (h : Has w g cs) : Has w.drew g cs := h
theorem Has.drewN {w : World} {g : Nat} {cs : List Value} (h : Has w g cs) (n : Nat) : Has (w.drewN n) g cs := h
theorem Has.at_ {w : World} {g : Nat} {cs : List Value} (h : Has w g cs) (j : Nat) (u : Value) (hu : cs[j]? = some u) : w.cell? ⟨g, j, none⟩ = some u := h.2.1 j u hu
theorem Has.free {w : World} {g : Nat} {cs : List Value} (h : Has w g cs) (j : Nat) : w.frozen? ⟨g, j, none⟩ = false := h.2.2 j
theorem Has.set {w : World} {g : Nat} {cs : List Value} (h : Has w g cs) (j : Nat) (u : Value) : Has (w.setCell ⟨g, j, none⟩ u) g (cs.set j u) := by
  refine ⟨by simpa [World.setCell] using h.1, fun i v hv => ?_, fun i => (World.frozen?_setCell _ _ _ _).trans (h.2.2 i)⟩
  by_cases e : i = j
  · subst e
    have hl : i < cs.length := by have := (List.getElem?_eq_some_iff.1 hv).1; simpa using this
    have hu : v = u := by
      rw [List.getElem?_set_self hl] at hv
      exact (Option.some.inj hv).symm
    subst hu
    exact World.cell?_setCell_same _ _ _ (h.2.1 i _ (List.getElem?_eq_getElem hl))
  · rw [List.getElem?_set_ne (fun h => e h.symm)] at hv
    exact (World.cell?_setCell_other _ _ _ _ (by simp; try omega)).trans (h.2.1 i v hv)
theorem Has.far {w : World} {g : Nat} {cs : List Value} (h : Has w g cs) {p : Addr} (hp : p.block ≠ g) (u : Value) : Has (w.setCell p u) g cs := by
  refine ⟨by simpa [World.setCell] using h.1, fun i v hv => (World.cell?_setCell_other _ _ _ _ (fun e => hp (by rw [e]))).trans (h.2.1 i v hv), fun i => (World.frozen?_setCell _ _ _ _).trans (h.2.2 i)⟩
theorem bthen {B : Nat} {a b c : World} (h : Below B a b) (k : Below b.heap.size b c) (hB : B ≤ b.heap.size) : Below B a c := h.trans (k.mono hB)

theorem bdrewN {B : Nat} {a w : World} (h : Below B a w) (n : Nat) : Below B a (w.drewN n) := ⟨h.os, h.tape, h.output, h.size, h.block⟩

/-! ### Cells stay while nothing old turns -/
theorem cell_next {W W1 : World} {a : Addr} {v : Value} (hb : Below W.heap.size W W1) (h : W.cell? a = some v) : W1.cell? a = some v :=
  (hb.cell (World.block_lt_of_cell? W a h)).trans h
theorem next2 {w W W1 : World} {a0 a1 : Addr} {v0 v1 : Value} (hb : Below W.heap.size W W1) (h : W.cell? a0 = some v0 ∧ W.cell? a1 = some v1 ∧ Hid (Below w.heap.size w W)) : W1.cell? a0 = some v0 ∧ W1.cell? a1 = some v1 ∧ Hid (Below w.heap.size w W1) := by
  obtain ⟨h0, h1, hB⟩ := h
  exact ⟨cell_next hb h0, cell_next hb h1, Lib.hid (bthen hB.out hb hB.out.size)⟩
theorem next4 {w W W1 : World} {a0 a1 a2 a3 : Addr} {v0 v1 v2 v3 : Value} (hb : Below W.heap.size W W1) (h : W.cell? a0 = some v0 ∧ W.cell? a1 = some v1 ∧ W.cell? a2 = some v2 ∧ W.cell? a3 = some v3 ∧ Hid (Below w.heap.size w W)) : W1.cell? a0 = some v0 ∧ W1.cell? a1 = some v1 ∧ W1.cell? a2 = some v2 ∧ W1.cell? a3 = some v3 ∧ Hid (Below w.heap.size w W1) := by
  obtain ⟨h0, h1, h2, h3, hB⟩ := h
  exact ⟨cell_next hb h0, cell_next hb h1, cell_next hb h2, cell_next hb h3, Lib.hid (bthen hB.out hb hB.out.size)⟩
theorem next6 {w W W1 : World} {a0 a1 a2 a3 a4 a5 : Addr} {v0 v1 v2 v3 v4 v5 : Value} (hb : Below W.heap.size W W1) (h : W.cell? a0 = some v0 ∧ W.cell? a1 = some v1 ∧ W.cell? a2 = some v2 ∧ W.cell? a3 = some v3 ∧ W.cell? a4 = some v4 ∧ W.cell? a5 = some v5 ∧ Hid (Below w.heap.size w W)) : W1.cell? a0 = some v0 ∧ W1.cell? a1 = some v1 ∧ W1.cell? a2 = some v2 ∧ W1.cell? a3 = some v3 ∧ W1.cell? a4 = some v4 ∧ W1.cell? a5 = some v5 ∧ Hid (Below w.heap.size w W1) := by
  obtain ⟨h0, h1, h2, h3, h4, h5, hB⟩ := h
  exact ⟨cell_next hb h0, cell_next hb h1, cell_next hb h2, cell_next hb h3, cell_next hb h4, cell_next hb h5, Lib.hid (bthen hB.out hb hB.out.size)⟩
theorem next8 {w W W1 : World} {a0 a1 a2 a3 a4 a5 a6 a7 : Addr} {v0 v1 v2 v3 v4 v5 v6 v7 : Value} (hb : Below W.heap.size W W1) (h : W.cell? a0 = some v0 ∧ W.cell? a1 = some v1 ∧ W.cell? a2 = some v2 ∧ W.cell? a3 = some v3 ∧ W.cell? a4 = some v4 ∧ W.cell? a5 = some v5 ∧ W.cell? a6 = some v6 ∧ W.cell? a7 = some v7 ∧ Hid (Below w.heap.size w W)) : W1.cell? a0 = some v0 ∧ W1.cell? a1 = some v1 ∧ W1.cell? a2 = some v2 ∧ W1.cell? a3 = some v3 ∧ W1.cell? a4 = some v4 ∧ W1.cell? a5 = some v5 ∧ W1.cell? a6 = some v6 ∧ W1.cell? a7 = some v7 ∧ Hid (Below w.heap.size w W1) := by
  obtain ⟨h0, h1, h2, h3, h4, h5, h6, h7, hB⟩ := h
  exact ⟨cell_next hb h0, cell_next hb h1, cell_next hb h2, cell_next hb h3, cell_next hb h4, cell_next hb h5, cell_next hb h6, cell_next hb h7, Lib.hid (bthen hB.out hb hB.out.size)⟩

/-! ### Behind the first call of a function whose structs were boxed -/
theorem box1 {w w1 : World} {cs : Array Value} {T : TypeId} (hb : Below (w.alloc (.cells cs T)).heap.size (w.alloc (.cells cs T)) w1) :
    Below w.heap.size w w1 ∧ Has w1 w.heap.size cs.toList :=
  ⟨bthen ((Below.refl _ _).alloc (Nat.le_refl _) _) hb (by simp), (Has.new _ _ _).next hb⟩
theorem box2 {w w1 : World} {cs ds : Array Value} {T T' : TypeId} (hb : Below ((w.alloc (.cells cs T)).alloc (.cells ds T')).heap.size ((w.alloc (.cells cs T)).alloc (.cells ds T')) w1) :
    Below w.heap.size w w1 ∧ Has w1 w.heap.size cs.toList ∧ Has w1 (w.heap.size + 1) ds.toList := by
  refine ⟨bthen (((Below.refl _ _).alloc (Nat.le_refl _) _).alloc (by simp) _) hb (by simp; omega), ((Has.new _ _ _).alloc _).next hb, ?_⟩
  have h := (Has.new (w.alloc (.cells cs T)) ds T').next hb
  rwa [World.size_alloc] at h
theorem box3 {w w1 : World} {cs ds es : Array Value} {T T' T'' : TypeId} (hb : Below (((w.alloc (.cells cs T)).alloc (.cells ds T')).alloc (.cells es T'')).heap.size (((w.alloc (.cells cs T)).alloc (.cells ds T')).alloc (.cells es T'')) w1) :
    Below w.heap.size w w1 ∧ Has w1 w.heap.size cs.toList ∧ Has w1 (w.heap.size + 1) ds.toList ∧ Has w1 (w.heap.size + 1 + 1) es.toList := by
  refine ⟨bthen ((((Below.refl _ _).alloc (Nat.le_refl _) _).alloc (by simp) _).alloc (by simp; omega) _) hb (by simp; omega), (((Has.new _ _ _).alloc _).alloc _).next hb, ?_, ?_⟩
  · have h := ((Has.new (w.alloc (.cells cs T)) ds T').alloc (.cells es T'')).next hb
    rwa [World.size_alloc] at h
  · have h := (Has.new ((w.alloc (.cells cs T)).alloc (.cells ds T')) es T'').next hb
    rwa [World.size_alloc, World.size_alloc] at h

/-- Does n lie in lo..hi? -/
def inB (n lo hi : Int) : Bool := decide (lo ≤ n ∧ n ≤ hi)
theorem inB_yes {n lo hi : Int} (h : inB n lo hi = true) : lo ≤ n ∧ n ≤ hi := of_decide_eq_true h
theorem inB_no {n lo hi : Int} (h : inB n lo hi = false) : ¬ (lo ≤ n ∧ n ≤ hi) := of_decide_eq_false h
theorem inB_mk {n lo hi : Int} (h1 : lo ≤ n) (h2 : n ≤ hi) : inB n lo hi = true := decide_eq_true ⟨h1, h2⟩

theorem l1In_any (n lo hi : Int) (w : World) :
    Calls Try.prog 79 #[.int .i64 n, .int .i64 lo, .int .i64 hi] w fun e w' => e = .returned (.bool (inB n lo hi)) ∧ w = w' := by
  by_cases h1 : lo ≤ n
  · by_cases h2 : n ≤ hi
    · have H := Lib.hid (inB_mk h1 h2)
      go_enter Try.func79, Try.ntmps79
      go_wp2
      go_ret
      exact ⟨ret_bool H.out.symm, rfl⟩
    · have H := Lib.hid (show inB n lo hi = false from decide_eq_false (fun h => h2 h.2))
      go_enter Try.func79, Try.ntmps79
      go_wp2
      go_ret
      exact ⟨ret_bool H.out.symm, rfl⟩
  · have H := Lib.hid (show inB n lo hi = false from decide_eq_false (fun h => h1 h.1))
    go_enter Try.func79, Try.ntmps79
    go_wp2
    go_ret
    exact ⟨ret_bool H.out.symm, rfl⟩
theorem within_any (n lo hi : Int) (w : World) :
    Calls Try.prog 60 #[.int .i64 n, .int .i64 lo, .int .i64 hi] w fun e w' => e = .returned (.bool (inB n lo hi)) ∧ w = w' := by
  by_cases h1 : lo ≤ n
  · by_cases h2 : n ≤ hi
    · have H := Lib.hid (inB_mk h1 h2)
      go_enter Try.func60, Try.ntmps60
      go_wp2
      go_ret
      exact ⟨ret_bool H.out.symm, rfl⟩
    · have H := Lib.hid (show inB n lo hi = false from decide_eq_false (fun h => h2 h.2))
      go_enter Try.func60, Try.ntmps60
      go_wp2
      go_ret
      exact ⟨ret_bool H.out.symm, rfl⟩
  · have H := Lib.hid (show inB n lo hi = false from decide_eq_false (fun h => h1 h.1))
    go_enter Try.func60, Try.ntmps60
    go_wp2
    go_ret
    exact ⟨ret_bool H.out.symm, rfl⟩
/-- A number in 0..1000. -/
def gridB (n : Int) : Bool := inB n 0 1000
theorem within_grid (n : Int) (w : World) :
    Calls Try.prog 60 #[.int .i64 n, .int .i64 0, .int .i64 1000] w fun e w' => e = .returned (.bool (gridB n)) ∧ w = w' := within_any n 0 1000 w
theorem grid_any (n : Int) (w : World) :
    Calls Try.prog 78 #[.int .i64 n] w fun e w' => e = .returned (.bool (gridB n)) ∧ w = w' := by
  go_enter Try.func78, Try.ntmps78
  go_wp2_with (go_at_call 79; refine (l1In_any _ _ _ _).mono ?_; rintro e w' ⟨rfl, rfl⟩)
  go_ret
  exact ⟨rfl, rfl⟩

/-! ### Spots -/
def spotV (x y : Int) : Value := .agg #[.int .i64 x, .int .i64 y]
def spotB (x y : Int) : Bool := gridB x && gridB y
theorem spotB_yes {x y : Int} (h : spotB x y = true) : (0 ≤ x ∧ x ≤ 1000) ∧ (0 ≤ y ∧ y ≤ 1000) := by
  unfold spotB gridB at h
  rw [Bool.and_eq_true] at h
  exact ⟨inB_yes h.1, inB_yes h.2⟩
theorem l2Spot_any (x y : Int) (w : World) :
    Calls Try.prog 58 #[.agg #[.int .i64 x, .int .i64 y]] w fun e w' => e = .returned (.bool (spotB x y)) ∧ Below w.heap.size w w' := by
  rcases hx : gridB x with _ | _
  · have HX := Lib.hid hx
    clear hx
    go_enter Try.func58, Try.ntmps58
    go_wp2_with (go_at_call 78; refine (grid_any _ _).mono ?_; rintro e w' ⟨rfl, rfl⟩; rw [HX.out])
    go_ret
    exact ⟨ret_bool (by unfold spotB; rw [HX.out]; rfl), (Below.refl _ _).alloc (Nat.le_refl _) _⟩
  · have HX := Lib.hid hx
    clear hx
    go_enter Try.func58, Try.ntmps58
    go_wp2_with (go_at_call 78; refine (grid_any _ _).mono ?_; rintro e w' ⟨rfl, rfl⟩; first | rw [HX.out] | skip)
    go_ret
    exact ⟨ret_bool (by unfold spotB; rw [HX.out]; rfl), (Below.refl _ _).alloc (Nat.le_refl _) _⟩
theorem isSpot_spec (x y : Int) (w : World) :
    Calls Try.prog 22 #[.agg #[.int .i64 x, .int .i64 y]] w fun e w' => e = .returned (.bool (spotB x y)) ∧ Below w.heap.size w w' := by
  go_enter Try.func22, Try.ntmps22
  go_wp2_with (go_at_call 58; refine (l2Spot_any x y _).mono ?_; rintro e w1 ⟨rfl, hb⟩; have HB := Lib.hid (((Below.refl w.heap.size w).alloc (Nat.le_refl _) _).trans (hb.mono (by simp))); clear hb)
  go_ret
  exact ⟨rfl, HB.out⟩
theorem isSpot_impl (x y : Int) (w : World) :
    Calls Try.prog 21 #[.agg #[.int .i64 x, .int .i64 y]] w fun e w' => e = .returned (.bool (spotB x y)) ∧ Below w.heap.size w w' := by
  rcases hx : gridB x with _ | _
  · have HX := Lib.hid hx
    clear hx
    go_enter Try.func21, Try.ntmps21
    go_wp2_with (go_at_call 60; refine (within_grid _ _).mono ?_; rintro e w' ⟨rfl, rfl⟩; rw [HX.out])
    go_ret
    exact ⟨ret_bool (by unfold spotB; rw [HX.out]; rfl), (Below.refl _ _).alloc (Nat.le_refl _) _⟩
  · have HX := Lib.hid hx
    clear hx
    go_enter Try.func21, Try.ntmps21
    go_wp2_with (go_at_call 60; refine (within_grid _ _).mono ?_; rintro e w' ⟨rfl, rfl⟩; first | rw [HX.out] | skip)
    go_ret
    exact ⟨ret_bool (by unfold spotB; rw [HX.out]; rfl), (Below.refl _ _).alloc (Nat.le_refl _) _⟩
theorem toSpot_any (x y : Int) (w : World) :
    Calls Try.prog 44 #[.agg #[.int .i64 x, .int .i64 y]] w fun e w' => e = .returned (.agg #[.int .i64 x, .int .i64 y]) ∧ Below w.heap.size w w' := by
  go_enter Try.func44, Try.ntmps44
  go_wp2
  refine bodyPost_ret (v := .agg #[.int .i64 x, .int .i64 y]) (by simp [results, Try.results44, go_sem]) rfl ⟨rfl, ?_⟩
  repeat (first | exact Below.refl _ _ | refine Below.setCell ?_ (by simp; try omega) _ | refine Below.alloc ?_ (by simp; try omega) _)
end Go.Proofs.Ytjnimedbjmihaaa
