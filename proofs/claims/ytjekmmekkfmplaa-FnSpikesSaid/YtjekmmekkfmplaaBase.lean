/-
  What every text over a seat rests on: words on blocks, rows of structs of two numbers, rows of numbers; contracts of spec.l1In, impl.isWithin. Conditions: stated at each theorem.
-/
import Derived.Test.YtjekmmekkfmplaaRows
import Derived.WalkKit
import Derived.Lib.Hide
import Derived.Deep.QuietTactic
import Derived.BigQuiet
import Derived.IntWalk
import Derived.Laws.MakeOwn
import Derived.Laws.AppendOwn
import Derived.Laws.OwnMore
import Derived.Sort.Grow
import Derived.Deep.RegionHeld3
import Derived.Maps.AppendAt
import Derived.BigRegion
import Derived.RegionTactic
import Derived.ChangeAlike
namespace Go.Proofs.Ytjekmmekkfmplaa
open Go.RowKit

theorem ret_bool {a b : Bool} (h : a = b) : Ending.returned (.bool a) = .returned (.bool b) := by rw [h]
theorem ret_int {k : IntKind} {a b : Int} (h : a = b) : Ending.returned (.int k a) = .returned (.int k b) := by rw [h]

/-- Block g holds the values cs from its head on, and may be written. -/
def Has (w : World) (g : Nat) (cs : List Value) : Prop := g < w.heap.size ∧ (∀ j u, cs[j]? = some u → w.cell? ⟨g, j, none⟩ = some u) ∧ ∀ j, w.frozen? ⟨g, j, none⟩ = false
theorem Has.on {w w' : World} {g B : Nat} {cs : List Value} (h : Has w g cs) (hb : Below B w w') (hg : g < B) : Has w' g cs :=
  ⟨Nat.lt_of_lt_of_le h.1 hb.size, fun j u hu => (hb.cell (p := ⟨g, j, none⟩) hg).trans (h.2.1 j u hu), fun j => (hb.frozen (p := ⟨g, j, none⟩) hg).trans (h.2.2 j)⟩
theorem Has.next {w w' : World} {g : Nat} {cs : List Value} (h : Has w g cs) (hb : Below w.heap.size w w') : Has w' g cs := h.on hb h.1
theorem Has.new (w : World) (cs : Array Value) (T : TypeId) : Has (w.alloc (.cells cs T)) w.heap.size cs.toList :=
  ⟨by simp, fun j u hu => by rw [World.cell?_alloc_new]; simpa using hu, fun j => World.frozen?_alloc_at _ _ _ _ rfl⟩
theorem Has.alloc {w : World} {g : Nat} {cs : List Value} (h : Has w g cs) (o : Obj) : Has (w.alloc o) g cs :=
  h.next ((Below.refl _ _).alloc (Nat.le_refl _) o)
theorem Has.drew {w : World} {g : Nat} {cs : List Value} (h : Has w g cs) : Has w.drew g cs := h
theorem Has.drewN {w : World} {g : Nat} {cs : List Value} (h : Has w g cs) (n : Nat) : Has (w.drewN n) g cs := h
theorem Has.at_ {w : World} {g : Nat} {cs : List Value} (h : Has w g cs) (j : Nat) (u : Value) (hu : cs[j]? = some u) : w.cell? ⟨g, j, none⟩ = some u := h.2.1 j u hu
theorem Has.free {w : World} {g : Nat} {cs : List Value} (h : Has w g cs) (j : Nat) : w.frozen? ⟨g, j, none⟩ = false := h.2.2 j
theorem Has.set {w : World} {g : Nat} {cs : List Value} (h : Has w g cs) (j : Nat) (u : Value) : Has (w.setCell ⟨g, j, none⟩ u) g (cs.set j u) := by
  refine ⟨by simpa [World.setCell] using h.1, fun i v hv => ?_, fun i => (World.frozen?_setCell _ _ _ _).trans (h.2.2 i)⟩
  by_cases e : i = j
  · subst e
    have hl : i < cs.length := by have := (List.getElem?_eq_some_iff.1 hv).1; simpa using this
    have hu : v = u := by
      rw [List.getElem?_set_self hl] at hv
      exact (Option.some.inj hv).symm
    subst hu
    exact World.cell?_setCell_same _ _ _ (h.2.1 i _ (List.getElem?_eq_getElem hl))
  · rw [List.getElem?_set_ne (fun h => e h.symm)] at hv
    exact (World.cell?_setCell_other _ _ _ _ (by simp; try omega)).trans (h.2.1 i v hv)
theorem Has.far {w : World} {g : Nat} {cs : List Value} (h : Has w g cs) {p : Addr} (hp : p.block ≠ g) (u : Value) : Has (w.setCell p u) g cs := by
  refine ⟨by simpa [World.setCell] using h.1, fun i v hv => (World.cell?_setCell_other _ _ _ _ (fun e => hp (by rw [e]))).trans (h.2.1 i v hv), fun i => (World.frozen?_setCell _ _ _ _).trans (h.2.2 i)⟩
theorem bthen {B : Nat} {a b c : World} (h : Below B a b) (k : Below b.heap.size b c) (hB : B ≤ b.heap.size) : Below B a c := h.trans (k.mono hB)

theorem bdrewN {B : Nat} {a w : World} (h : Below B a w) (n : Nat) : Below B a (w.drewN n) := ⟨h.os, h.tape, h.output, h.size, h.block⟩

/-! ### Cells stay while nothing old turns -/
theorem cell_next {W W1 : World} {a : Addr} {v : Value} (hb : Below W.heap.size W W1) (h : W.cell? a = some v) : W1.cell? a = some v :=
  (hb.cell (World.block_lt_of_cell? W a h)).trans h
theorem next2 {w W W1 : World} {a0 a1 : Addr} {v0 v1 : Value} (hb : Below W.heap.size W W1) (h : W.cell? a0 = some v0 ∧ W.cell? a1 = some v1 ∧ Hid (Below w.heap.size w W)) : W1.cell? a0 = some v0 ∧ W1.cell? a1 = some v1 ∧ Hid (Below w.heap.size w W1) := by
  obtain ⟨h0, h1, hB⟩ := h
  exact ⟨cell_next hb h0, cell_next hb h1, Lib.hid (bthen hB.out hb hB.out.size)⟩
theorem next4 {w W W1 : World} {a0 a1 a2 a3 : Addr} {v0 v1 v2 v3 : Value} (hb : Below W.heap.size W W1) (h : W.cell? a0 = some v0 ∧ W.cell? a1 = some v1 ∧ W.cell? a2 = some v2 ∧ W.cell? a3 = some v3 ∧ Hid (Below w.heap.size w W)) : W1.cell? a0 = some v0 ∧ W1.cell? a1 = some v1 ∧ W1.cell? a2 = some v2 ∧ W1.cell? a3 = some v3 ∧ Hid (Below w.heap.size w W1) := by
  obtain ⟨h0, h1, h2, h3, hB⟩ := h
  exact ⟨cell_next hb h0, cell_next hb h1, cell_next hb h2, cell_next hb h3, Lib.hid (bthen hB.out hb hB.out.size)⟩
theorem next6 {w W W1 : World} {a0 a1 a2 a3 a4 a5 : Addr} {v0 v1 v2 v3 v4 v5 : Value} (hb : Below W.heap.size W W1) (h : W.cell? a0 = some v0 ∧ W.cell? a1 = some v1 ∧ W.cell? a2 = some v2 ∧ W.cell? a3 = some v3 ∧ W.cell? a4 = some v4 ∧ W.cell? a5 = some v5 ∧ Hid (Below w.heap.size w W)) : W1.cell? a0 = some v0 ∧ W1.cell? a1 = some v1 ∧ W1.cell? a2 = some v2 ∧ W1.cell? a3 = some v3 ∧ W1.cell? a4 = some v4 ∧ W1.cell? a5 = some v5 ∧ Hid (Below w.heap.size w W1) := by
  obtain ⟨h0, h1, h2, h3, h4, h5, hB⟩ := h
  exact ⟨cell_next hb h0, cell_next hb h1, cell_next hb h2, cell_next hb h3, cell_next hb h4, cell_next hb h5, Lib.hid (bthen hB.out hb hB.out.size)⟩
theorem next8 {w W W1 : World} {a0 a1 a2 a3 a4 a5 a6 a7 : Addr} {v0 v1 v2 v3 v4 v5 v6 v7 : Value} (hb : Below W.heap.size W W1) (h : W.cell? a0 = some v0 ∧ W.cell? a1 = some v1 ∧ W.cell? a2 = some v2 ∧ W.cell? a3 = some v3 ∧ W.cell? a4 = some v4 ∧ W.cell? a5 = some v5 ∧ W.cell? a6 = some v6 ∧ W.cell? a7 = some v7 ∧ Hid (Below w.heap.size w W)) : W1.cell? a0 = some v0 ∧ W1.cell? a1 = some v1 ∧ W1.cell? a2 = some v2 ∧ W1.cell? a3 = some v3 ∧ W1.cell? a4 = some v4 ∧ W1.cell? a5 = some v5 ∧ W1.cell? a6 = some v6 ∧ W1.cell? a7 = some v7 ∧ Hid (Below w.heap.size w W1) := by
  obtain ⟨h0, h1, h2, h3, h4, h5, h6, h7, hB⟩ := h
  exact ⟨cell_next hb h0, cell_next hb h1, cell_next hb h2, cell_next hb h3, cell_next hb h4, cell_next hb h5, cell_next hb h6, cell_next hb h7, Lib.hid (bthen hB.out hb hB.out.size)⟩

/-! ### Behind the first call of a function whose structs were boxed -/
theorem box1 {w w1 : World} {cs : Array Value} {T : TypeId} (hb : Below (w.alloc (.cells cs T)).heap.size (w.alloc (.cells cs T)) w1) :
    Below w.heap.size w w1 ∧ Has w1 w.heap.size cs.toList :=
  ⟨bthen ((Below.refl _ _).alloc (Nat.le_refl _) _) hb (by simp), (Has.new _ _ _).next hb⟩
theorem box2 {w w1 : World} {cs ds : Array Value} {T T' : TypeId} (hb : Below ((w.alloc (.cells cs T)).alloc (.cells ds T')).heap.size ((w.alloc (.cells cs T)).alloc (.cells ds T')) w1) :
    Below w.heap.size w w1 ∧ Has w1 w.heap.size cs.toList ∧ Has w1 (w.heap.size + 1) ds.toList := by
  refine ⟨bthen (((Below.refl _ _).alloc (Nat.le_refl _) _).alloc (by simp) _) hb (by simp; omega), ((Has.new _ _ _).alloc _).next hb, ?_⟩
  have h := (Has.new (w.alloc (.cells cs T)) ds T').next hb
  rwa [World.size_alloc] at h
theorem box3 {w w1 : World} {cs ds es : Array Value} {T T' T'' : TypeId} (hb : Below (((w.alloc (.cells cs T)).alloc (.cells ds T')).alloc (.cells es T'')).heap.size (((w.alloc (.cells cs T)).alloc (.cells ds T')).alloc (.cells es T'')) w1) :
    Below w.heap.size w w1 ∧ Has w1 w.heap.size cs.toList ∧ Has w1 (w.heap.size + 1) ds.toList ∧ Has w1 (w.heap.size + 1 + 1) es.toList := by
  refine ⟨bthen ((((Below.refl _ _).alloc (Nat.le_refl _) _).alloc (by simp) _).alloc (by simp; omega) _) hb (by simp; omega), (((Has.new _ _ _).alloc _).alloc _).next hb, ?_, ?_⟩
  · have h := ((Has.new (w.alloc (.cells cs T)) ds T').alloc (.cells es T'')).next hb
    rwa [World.size_alloc] at h
  · have h := (Has.new ((w.alloc (.cells cs T)).alloc (.cells ds T')) es T'').next hb
    rwa [World.size_alloc, World.size_alloc] at h

/-- Does n lie in lo..hi? -/
def inB (n lo hi : Int) : Bool := decide (lo ≤ n ∧ n ≤ hi)
theorem inB_yes {n lo hi : Int} (h : inB n lo hi = true) : lo ≤ n ∧ n ≤ hi := of_decide_eq_true h
theorem inB_no {n lo hi : Int} (h : inB n lo hi = false) : ¬ (lo ≤ n ∧ n ≤ hi) := of_decide_eq_false h
theorem inB_mk {n lo hi : Int} (h1 : lo ≤ n) (h2 : n ≤ hi) : inB n lo hi = true := decide_eq_true ⟨h1, h2⟩

theorem l1In_any (n lo hi : Int) (w : World) :
    Calls Try.prog 73 #[.int .i64 n, .int .i64 lo, .int .i64 hi] w fun e w' => e = .returned (.bool (inB n lo hi)) ∧ w = w' := by
  by_cases h1 : lo ≤ n
  · by_cases h2 : n ≤ hi
    · have H := Lib.hid (inB_mk h1 h2)
      go_enter Try.func73, Try.ntmps73
      go_wp2
      go_ret
      exact ⟨ret_bool H.out.symm, rfl⟩
    · have H := Lib.hid (show inB n lo hi = false from decide_eq_false (fun h => h2 h.2))
      go_enter Try.func73, Try.ntmps73
      go_wp2
      go_ret
      exact ⟨ret_bool H.out.symm, rfl⟩
  · have H := Lib.hid (show inB n lo hi = false from decide_eq_false (fun h => h1 h.1))
    go_enter Try.func73, Try.ntmps73
    go_wp2
    go_ret
    exact ⟨ret_bool H.out.symm, rfl⟩
theorem within_any (n lo hi : Int) (w : World) :
    Calls Try.prog 60 #[.int .i64 n, .int .i64 lo, .int .i64 hi] w fun e w' => e = .returned (.bool (inB n lo hi)) ∧ w = w' := by
  by_cases h1 : lo ≤ n
  · by_cases h2 : n ≤ hi
    · have H := Lib.hid (inB_mk h1 h2)
      go_enter Try.func60, Try.ntmps60
      go_wp2
      go_ret
      exact ⟨ret_bool H.out.symm, rfl⟩
    · have H := Lib.hid (show inB n lo hi = false from decide_eq_false (fun h => h2 h.2))
      go_enter Try.func60, Try.ntmps60
      go_wp2
      go_ret
      exact ⟨ret_bool H.out.symm, rfl⟩
  · have H := Lib.hid (show inB n lo hi = false from decide_eq_false (fun h => h1 h.1))
    go_enter Try.func60, Try.ntmps60
    go_wp2
    go_ret
    exact ⟨ret_bool H.out.symm, rfl⟩
/-- The slice value with address A and n elements reads as the spots l; its block lies below B. -/
def Spots (w : World) (B : Nat) (A : Option Addr) (n : Nat) (l : List (Int × Int)) : Prop :=
  l.length = n ∧ ∀ k, k < n → ∃ (b o : Nat) (x y : Int), A = some ⟨b, o, none⟩ ∧ b < B ∧ l[k]? = some (x, y) ∧
    w.cell? ⟨b, o + k * 2, none⟩ = some (.int .i64 x) ∧ w.cell? ⟨b, o + k * 2 + 1, none⟩ = some (.int .i64 y)
theorem Spots.on {w w' : World} {B B' n : Nat} {A : Option Addr} {l : List (Int × Int)} (h : Spots w B A n l) (hb : Below B' w w') (hB : B ≤ B') : Spots w' B A n l :=
  ⟨h.1, fun k hk => by
    obtain ⟨b, o, x, y, hA, hlt, hl, h0, h1⟩ := h.2 k hk
    exact ⟨b, o, x, y, hA, hlt, hl, (hb.cell (p := ⟨b, _, none⟩) (Nat.lt_of_lt_of_le hlt hB)).trans h0, (hb.cell (p := ⟨b, _, none⟩) (Nat.lt_of_lt_of_le hlt hB)).trans h1⟩⟩

/-- Block g holds n spots, the first k of which are those of l; it may be written. -/
structure Fill (w : World) (B g n k : Nat) (l : List (Int × Int)) : Prop where
  low : B ≤ g
  lt : g < w.heap.size
  free : ∀ j, w.frozen? ⟨g, j, none⟩ = false
  cells : ∀ j, j < n → ∃ x y : Int, w.cell? ⟨g, j * 2, none⟩ = some (.int .i64 x) ∧ w.cell? ⟨g, j * 2 + 1, none⟩ = some (.int .i64 y) ∧ (j < k → l[j]? = some (x, y))
theorem Fill.next {w w' : World} {B g n k : Nat} {l : List (Int × Int)} (h : Fill w B g n k l) (hb : Below w.heap.size w w') : Fill w' B g n k l :=
  ⟨h.low, Nat.lt_of_lt_of_le h.lt hb.size, fun j => (hb.frozen (p := ⟨g, j, none⟩) h.lt).trans (h.free j), fun j hj => by
    obtain ⟨x, y, h0, h1, h2⟩ := h.cells j hj
    exact ⟨x, y, (hb.cell (p := ⟨g, _, none⟩) h.lt).trans h0, (hb.cell (p := ⟨g, _, none⟩) h.lt).trans h1, h2⟩⟩
theorem fill_step {w : World} {B g n k : Nat} {l : List (Int × Int)} {x y : Int} (h : Fill w B g n k l) (hk : k < n) (hl : l[k]? = some (x, y)) :
    Fill ((w.setCell ⟨g, k * 2, none⟩ (.int .i64 x)).setCell ⟨g, k * 2 + 1, none⟩ (.int .i64 y)) B g n (k + 1) l := by
  refine ⟨h.low, by simpa [World.setCell] using h.lt, fun j => (World.frozen?_setCell _ _ _ _).trans ((World.frozen?_setCell _ _ _ _).trans (h.free j)), fun j hj => ?_⟩
  obtain ⟨a, b, h0, h1, h2⟩ := h.cells j hj
  by_cases e : j = k
  · subst e
    refine ⟨x, y, ?_, ?_, fun _ => hl⟩
    · exact (World.cell?_setCell_other _ _ _ _ (by simp)).trans (World.cell?_setCell_same _ _ _ h0)
    · exact World.cell?_setCell_same _ _ _ ((World.cell?_setCell_other _ _ _ _ (by simp)).trans h1)
  · refine ⟨a, b, ?_, ?_, fun hlt => h2 (by omega)⟩
    · exact (World.cell?_setCell_other _ _ _ _ (by simp; try omega)).trans ((World.cell?_setCell_other _ _ _ _ (by simp; try omega)).trans h0)
    · exact (World.cell?_setCell_other _ _ _ _ (by simp; try omega)).trans ((World.cell?_setCell_other _ _ _ _ (by simp; try omega)).trans h1)
theorem spots_of_fill {w : World} {B g n : Nat} {l : List (Int × Int)} (h : Fill w B g n n l) (hn : l.length = n) : Spots w w.heap.size (some ⟨g, 0, none⟩) n l :=
  ⟨hn, fun k hk => by
    obtain ⟨x, y, h0, h1, h2⟩ := h.cells k hk
    exact ⟨g, 0, x, y, rfl, h.lt, h2 hk, by rw [Nat.zero_add]; exact h0, by rw [Nat.zero_add]; exact h1⟩⟩
theorem spots_more {w w' : World} {n : Nat} {A : Option Addr} {l : List (Int × Int)} (h : Spots w w.heap.size A n l) (hb : Below w.heap.size w w') : Spots w' w'.heap.size A n l :=
  ⟨h.1, fun k hk => by
    obtain ⟨b, o, x, y, hA, hlt, hl, h0, h1⟩ := (h.on hb (Nat.le_refl _)).2 k hk
    exact ⟨b, o, x, y, hA, Nat.lt_of_lt_of_le hlt hb.size, hl, h0, h1⟩⟩
theorem kept_next {w W W1 : World} {b1 o1 b2 o2 k : Nat} {x y : Int} (hb : Below W.heap.size W W1) (h : W.cell? ⟨b1, o1 + k * 2, none⟩ = some (.int .i64 x) ∧ W.cell? ⟨b1, o1 + k * 2 + 1, none⟩ = some (.int .i64 y) ∧ W.cell? ⟨b2, o2 + k * 2, none⟩ = some (.int .i64 x) ∧ W.cell? ⟨b2, o2 + k * 2 + 1, none⟩ = some (.int .i64 y) ∧ Hid (Below w.heap.size w W)) (h1 : b1 < w.heap.size) (h2 : b2 < w.heap.size) :
    W1.cell? ⟨b1, o1 + k * 2, none⟩ = some (.int .i64 x) ∧ W1.cell? ⟨b1, o1 + k * 2 + 1, none⟩ = some (.int .i64 y) ∧ W1.cell? ⟨b2, o2 + k * 2, none⟩ = some (.int .i64 x) ∧ W1.cell? ⟨b2, o2 + k * 2 + 1, none⟩ = some (.int .i64 y) ∧ Hid (Below w.heap.size w W1) := by
  have hz := h.2.2.2.2.out.size
  exact ⟨(hb.cell (p := ⟨b1, _, none⟩) (by simp; omega)).trans h.1, (hb.cell (p := ⟨b1, _, none⟩) (by simp; omega)).trans h.2.1, (hb.cell (p := ⟨b2, _, none⟩) (by simp; omega)).trans h.2.2.1, (hb.cell (p := ⟨b2, _, none⟩) (by simp; omega)).trans h.2.2.2.1, Lib.hid (bthen h.2.2.2.2.out hb hz)⟩
/-- The slice value with address A and n elements holds the numbers f 0, f 1 ..; its block lies from lo on and below hi, and may be written. -/
def IFun (w : World) (lo hi : Nat) (A : Option Addr) (n : Nat) (f : Nat → Int) : Prop :=
  ∀ k, k < n → ∃ g : Nat, A = some ⟨g, 0, none⟩ ∧ lo ≤ g ∧ g < hi ∧ w.cell? ⟨g, k, none⟩ = some (.int .i64 (f k)) ∧ w.frozen? ⟨g, k, none⟩ = false
theorem IFun.on {w w' : World} {lo hi B n : Nat} {A : Option Addr} {f : Nat → Int} (h : IFun w lo hi A n f) (hb : Below B w w') (hB : hi ≤ B) : IFun w' lo hi A n f := fun k hk => by
  obtain ⟨g, hA, h1, h2, h3, h4⟩ := h k hk
  exact ⟨g, hA, h1, h2, (hb.cell (p := ⟨g, k, none⟩) (Nat.lt_of_lt_of_le h2 hB)).trans h3, (hb.frozen (p := ⟨g, k, none⟩) (Nat.lt_of_lt_of_le h2 hB)).trans h4⟩
theorem IFun.congr {w : World} {lo hi n : Nat} {A : Option Addr} {f f' : Nat → Int} (h : IFun w lo hi A n f) (he : ∀ k, k < n → f k = f' k) : IFun w lo hi A n f' := fun k hk => by
  obtain ⟨g, hA, h1, h2, h3, h4⟩ := h k hk
  exact ⟨g, hA, h1, h2, by rw [← he k hk]; exact h3, h4⟩
theorem IFun.wide {w : World} {lo hi lo' hi' n : Nat} {A : Option Addr} {f : Nat → Int} (h : IFun w lo hi A n f) (h1 : lo' ≤ lo) (h2 : hi ≤ hi') : IFun w lo' hi' A n f := fun k hk => by
  obtain ⟨g, hA, a, b, c⟩ := h k hk
  exact ⟨g, hA, Nat.le_trans h1 a, Nat.lt_of_lt_of_le b h2, c⟩
/-- Outside of the blocks from lo on and below hi nothing old has turned. -/
structure Far (lo hi : Nat) (w w' : World) : Prop where
  os : w'.os = w.os
  tape : w'.tape = w.tape
  output : w'.output = w.output
  size : w'.heap.size = w.heap.size
  block : ∀ k, k < w.heap.size → (k < lo ∨ hi ≤ k) → w'.heap[k]? = w.heap[k]?
theorem Far.refl (lo hi : Nat) (w : World) : Far lo hi w w := ⟨rfl, rfl, rfl, rfl, fun _ _ _ => rfl⟩
theorem Far.setCell {lo hi : Nat} {a w : World} (h : Far lo hi a w) {p : Addr} (h1 : lo ≤ p.block) (h2 : p.block < hi) (u : Value) : Far lo hi a (w.setCell p u) :=
  ⟨h.os, h.tape, h.output, by simpa [World.setCell] using h.size, fun k hk ho => (Below.heap_setCell _ _ _ _ (by omega)).trans (h.block k hk ho)⟩
theorem Far.below {lo hi : Nat} {w w' : World} (h : Far lo hi w w') {B : Nat} (hB : B ≤ lo) (hs : B ≤ w.heap.size) : Below B w w' :=
  ⟨h.os, h.tape, h.output, Nat.le_of_eq h.size.symm, fun k hk => h.block k (by omega) (.inl (by omega))⟩
theorem IFun.far {w w' : World} {lo hi lo' hi' n : Nat} {A : Option Addr} {f : Nat → Int} (h : IFun w lo hi A n f) (hf : Far lo' hi' w w') (hs : hi ≤ w.heap.size) (hd : hi ≤ lo' ∨ hi' ≤ lo) : IFun w' lo hi A n f := fun k hk => by
  obtain ⟨g, hA, h1, h2, h3, h4⟩ := h k hk
  have hb := hf.block g (by omega) (by omega)
  exact ⟨g, hA, h1, h2, (World.cell?_of_block (a := ⟨g, k, none⟩) hb).trans h3, (World.frozen?_of_block (a := ⟨g, k, none⟩) hb).trans h4⟩
theorem IFun.set {w : World} {lo hi n g k : Nat} {f : Nat → Int} (h : IFun w lo hi (some ⟨g, 0, none⟩) n f) (v : Int) : IFun (w.setCell ⟨g, k, none⟩ (.int .i64 v)) lo hi (some ⟨g, 0, none⟩) n (fun j => if j = k then v else f j) := fun j hj => by
  obtain ⟨g', hA, h1, h2, h3, h4⟩ := h j hj
  have e : g' = g := by injection hA with h; injection h with h; exact h.symm
  subst e
  refine ⟨g', rfl, h1, h2, ?_, (World.frozen?_setCell _ _ _ _).trans h4⟩
  by_cases hjk : j = k
  · subst hjk
    dsimp only
    rw [if_pos rfl]
    exact World.cell?_setCell_same _ _ _ h3
  · dsimp only
    rw [if_neg hjk]
    exact (World.cell?_setCell_other _ _ _ _ (by simp; try omega)).trans h3
theorem ifun_of_own {w : World} {B n c : Nat} {A : Option Addr} {xs : List Int} (h : w.ownsRow B 3 1 (.slice A n c) n (xs.map (Value.int .i64))) : IFun w B w.heap.size A n (fun j => xs.getD j 0) := fun k hk => by
  have hl : xs.length = n := by simpa using h.1
  obtain ⟨g, hA⟩ : ∃ g : Nat, A = some ⟨g, 0, none⟩ := by
    rcases h.2 with ⟨_, h0⟩ | ⟨g, cap, cur, hv, _⟩
    · omega
    · exact ⟨g, by injection hv⟩
  subst hA
  refine ⟨g, rfl, (h.lt g rfl).1, (h.lt g rfl).2, ?_, h.frozenAt k⟩
  rw [h.cellAt k (by omega)]
  simp [List.getD, hl, hk]

theorem all_snoc {α : Type} (f : α → Bool) {l : List α} {k : Nat} {p : α} (h : l[k]? = some p) : (l.take (k + 1)).all f = ((l.take k).all f && f p) := by
  obtain ⟨hk, rfl⟩ := List.getElem?_eq_some_iff.1 h
  rw [List.take_succ_eq_append_getElem hk, List.all_append]
  simp
theorem all_bad {α : Type} (f : α → Bool) {l : List α} {k : Nat} {p : α} (h : l[k]? = some p) (hf : f p = false) : l.all f = false := by
  rw [List.all_eq_false]
  exact ⟨p, List.mem_of_getElem? h, by simp [hf]⟩
theorem within_v (n lo hi : Int) (v : Bool) (h : inB n lo hi = v) (w : World) :
    Calls Try.prog 60 #[.int .i64 n, .int .i64 lo, .int .i64 hi] w fun e w' => e = .returned (.bool v) ∧ w = w' := h ▸ within_any n lo hi w
theorem l1In_v (n lo hi : Int) (v : Bool) (h : inB n lo hi = v) (w : World) :
    Calls Try.prog 73 #[.int .i64 n, .int .i64 lo, .int .i64 hi] w fun e w' => e = .returned (.bool v) ∧ w = w' := h ▸ l1In_any n lo hi w
theorem spots_alloc {w : World} {n : Nat} {A : Option Addr} {l : List (Int × Int)} (h : Spots w w.heap.size A n l) (o : Obj) : Spots (w.alloc o) (w.alloc o).heap.size A n l :=
  spots_more h ((Below.refl _ _).alloc (Nat.le_refl _) o)
theorem info3 : (Try.prog.info? 3).map (fun i => (i.zero, i.size, i.bytes)) = some (some (.int .i64 0), 1, 8) := by kernel_rfl
theorem own_below {W W' : World} {B n e z : Nat} {v : Value} {xs : List Value} (h : W.ownsRow B e z v n xs) (hb : Below W.heap.size W W') : W'.ownsRow B e z v n xs :=
  h.kept (row := none) ⟨hb.os, hb.tape, hb.output, hb.size, fun k hk _ => hb.block k hk⟩ (Classical.em _)
theorem own_base {W : World} {B B' n e z : Nat} {v : Value} {xs : List Value} (h : W.ownsRow B e z v n xs) (hB : B' ≤ B) : W.ownsRow B' e z v n xs := by
  obtain ⟨h1, h2⟩ := h
  rcases h2 with h | ⟨g, cap, cur, hv, hb, r⟩
  · exact ⟨h1, .inl h⟩
  · exact ⟨h1, .inr ⟨g, cap, cur, hv, Nat.le_trans hB hb, r⟩⟩
theorem has_grown {W W' : World} {g : Nat} {cs : List Value} {row : Option Nat} (h : Has W g cs) (hg : W.grownBy W' row) (hr : some g ≠ row) : Has W' g cs :=
  ⟨Nat.lt_of_lt_of_le h.1 hg.size, fun j u hu => (World.cell?_of_block (a := ⟨g, j, none⟩) (hg.block g h.1 hr)).trans (h.2.1 j u hu), fun j => (World.frozen?_of_block (a := ⟨g, j, none⟩) (hg.block g h.1 hr)).trans (h.2.2 j)⟩

/-! ### Rows of structs of two numbers that the call owns -/
/-- The slice value with address A and n elements holds the pairs l; its block lies from lo on and below hi, and may be written. -/
def Own2 (w : World) (lo hi : Nat) (A : Option Addr) (n : Nat) (l : List (Int × Int)) : Prop :=
  l.length = n ∧ ∀ k, k < n → ∃ (g : Nat) (x y : Int), A = some ⟨g, 0, none⟩ ∧ lo ≤ g ∧ g < hi ∧ l[k]? = some (x, y) ∧
    w.cell? ⟨g, k * 2, none⟩ = some (.int .i64 x) ∧ w.cell? ⟨g, k * 2 + 1, none⟩ = some (.int .i64 y) ∧ w.frozen? ⟨g, k * 2, none⟩ = false ∧ w.frozen? ⟨g, k * 2 + 1, none⟩ = false
theorem Own2.on {w w' : World} {lo hi B n : Nat} {A : Option Addr} {l : List (Int × Int)} (h : Own2 w lo hi A n l) (hb : Below B w w') (hB : hi ≤ B) : Own2 w' lo hi A n l :=
  ⟨h.1, fun k hk => by
    obtain ⟨g, x, y, hA, h1, h2, hl, c0, c1, f0, f1⟩ := h.2 k hk
    have hg := Nat.lt_of_lt_of_le h2 hB
    exact ⟨g, x, y, hA, h1, h2, hl, (hb.cell (p := ⟨g, _, none⟩) hg).trans c0, (hb.cell (p := ⟨g, _, none⟩) hg).trans c1, (hb.frozen (p := ⟨g, _, none⟩) hg).trans f0, (hb.frozen (p := ⟨g, _, none⟩) hg).trans f1⟩⟩
theorem Own2.wide {w : World} {lo hi lo' hi' n : Nat} {A : Option Addr} {l : List (Int × Int)} (h : Own2 w lo hi A n l) (h1 : lo' ≤ lo) (h2 : hi ≤ hi') : Own2 w lo' hi' A n l :=
  ⟨h.1, fun k hk => by
    obtain ⟨g, x, y, hA, a, b, r⟩ := h.2 k hk
    exact ⟨g, x, y, hA, Nat.le_trans h1 a, Nat.lt_of_lt_of_le b h2, r⟩⟩
theorem Own2.far {w w' : World} {lo hi lo' hi' n : Nat} {A : Option Addr} {l : List (Int × Int)} (h : Own2 w lo hi A n l) (hf : Far lo' hi' w w') (hs : hi ≤ w.heap.size) (hd : hi ≤ lo' ∨ hi' ≤ lo) : Own2 w' lo hi A n l :=
  ⟨h.1, fun k hk => by
    obtain ⟨g, x, y, hA, h1, h2, hl, c0, c1, f0, f1⟩ := h.2 k hk
    have hb := hf.block g (by omega) (by omega)
    exact ⟨g, x, y, hA, h1, h2, hl, (World.cell?_of_block (a := ⟨g, _, none⟩) hb).trans c0, (World.cell?_of_block (a := ⟨g, _, none⟩) hb).trans c1, (World.frozen?_of_block (a := ⟨g, _, none⟩) hb).trans f0, (World.frozen?_of_block (a := ⟨g, _, none⟩) hb).trans f1⟩⟩
theorem Own2.spots {w : World} {lo hi n : Nat} {A : Option Addr} {l : List (Int × Int)} (h : Own2 w lo hi A n l) (hs : hi ≤ w.heap.size) : Spots w w.heap.size A n l :=
  ⟨h.1, fun k hk => by
    obtain ⟨g, x, y, hA, h1, h2, hl, c0, c1, _⟩ := h.2 k hk
    exact ⟨g, 0, x, y, hA, Nat.lt_of_lt_of_le h2 hs, hl, by rw [Nat.zero_add]; exact c0, by rw [Nat.zero_add]; exact c1⟩⟩
theorem Own2.put {w : World} {lo hi n : Nat} {A : Option Addr} {l : List (Int × Int)} (h : Own2 w lo hi A n l) (p : Addr) (v : Value) (hp : p.block < lo ∨ hi ≤ p.block) : Own2 (w.setCell p v) lo hi A n l :=
  ⟨h.1, fun k hk => by
    obtain ⟨g, x, y, hA, h1, h2, hl, c0, c1, f0, f1⟩ := h.2 k hk
    have ne : ∀ o, p ≠ ⟨g, o, none⟩ := fun o e => by rw [e] at hp; simp only at hp; omega
    exact ⟨g, x, y, hA, h1, h2, hl, (World.cell?_setCell_other _ _ _ _ (ne _)).trans c0, (World.cell?_setCell_other _ _ _ _ (ne _)).trans c1, (World.frozen?_setCell _ _ _ _).trans f0, (World.frozen?_setCell _ _ _ _).trans f1⟩⟩
theorem Own2.nil (w : World) (lo hi : Nat) (A : Option Addr) : Own2 w lo hi A 0 [] := ⟨rfl, fun k hk => absurd hk (by omega)⟩
theorem own2_of_fill {w : World} {B g n : Nat} {l : List (Int × Int)} (h : Fill w B g n n l) (hn : l.length = n) : Own2 w B w.heap.size (some ⟨g, 0, none⟩) n l :=
  ⟨hn, fun k hk => by
    obtain ⟨x, y, h0, h1, h2⟩ := h.cells k hk
    exact ⟨g, x, y, rfl, h.low, h.lt, h2 hk, h0, h1, h.free _, h.free _⟩⟩
/-- The cells of pairs. -/
def cells2 (l : List (Int × Int)) : List Value := l.flatMap fun p => [.int .i64 p.1, .int .i64 p.2]
theorem cells2_snoc (l : List (Int × Int)) (x y : Int) : cells2 (l ++ [(x, y)]) = cells2 l ++ [.int .i64 x, .int .i64 y] := by simp [cells2]
theorem cells2_at (l : List (Int × Int)) (k : Nat) (x y : Int) (h : l[k]? = some (x, y)) : (cells2 l)[k * 2]? = some (.int .i64 x) ∧ (cells2 l)[k * 2 + 1]? = some (.int .i64 y) := by
  induction l generalizing k with
  | nil => simp at h
  | cons p t ih =>
    cases k with
    | zero => simp at h; subst h; exact ⟨rfl, rfl⟩
    | succ k =>
      have h' := ih k (by simpa using h)
      rw [show (k + 1) * 2 = k * 2 + 1 + 1 by omega]
      simpa [cells2] using h'
theorem cells2_len (l : List (Int × Int)) : (cells2 l).length = l.length * 2 := by
  induction l with
  | nil => rfl
  | cons p t ih => simp [cells2] at ih ⊢; omega
theorem own2_of_row {w : World} {B n e : Nat} {A : Option Addr} {c : Nat} {l : List (Int × Int)} (h : w.ownsRow B e 2 (.slice A n c) n (cells2 l)) (hn : l.length = n) : Own2 w B w.heap.size A n l :=
  ⟨hn, fun k hk => by
    obtain ⟨g, hA⟩ : ∃ g : Nat, A = some ⟨g, 0, none⟩ := by
      rcases h.2 with ⟨_, h0⟩ | ⟨g, cap, cur, hv, _⟩
      · omega
      · exact ⟨g, by injection hv⟩
    subst hA
    have hl : l[k]? = some (l[k]'(by omega)) := List.getElem?_eq_getElem (by omega)
    obtain ⟨h0, h1⟩ := cells2_at l k _ _ hl
    have c0 := h.cellAt (k * 2) (by omega)
    have c1 := h.cellAt (k * 2 + 1) (by omega)
    exact ⟨g, _, _, rfl, (h.lt g rfl).1, (h.lt g rfl).2, hl, c0.trans h0, c1.trans h1, h.frozenAt _, h.frozenAt _⟩⟩
/-- What marking leaves: the numbers from 1 on. -/
def marks2 (n : Nat) : List (Int × Int) := (List.range n).map fun k : Nat => (2 * (k : Int) + 1, 2 * (k : Int) + 2)
theorem marks2_at (n k : Nat) (h : k < n) : (marks2 n)[k]? = some (2 * (k : Int) + 1, 2 * (k : Int) + 2) := by simp [marks2, h]
theorem marks2_len (n : Nat) : (marks2 n).length = n := by simp [marks2]

theorem Has.farF {w w' : World} {g lo hi : Nat} {cs : List Value} (h : Has w g cs) (hf : Far lo hi w w') (hd : g < lo ∨ hi ≤ g) : Has w' g cs := by
  have hb := hf.block g h.1 hd
  exact ⟨by rw [hf.size]; exact h.1, fun j u hu => (World.cell?_of_block (a := ⟨g, j, none⟩) hb).trans (h.2.1 j u hu), fun j => (World.frozen?_of_block (a := ⟨g, j, none⟩) hb).trans (h.2.2 j)⟩
theorem spots_at {w W : World} {n : Nat} {A : Option Addr} {l : List (Int × Int)} (h : Spots w w.heap.size A n l) (hb : Below w.heap.size w W) : Spots W W.heap.size A n l := spots_more h hb

/-! ### A region that draws its order, whose calls may make memory but hand back plain values: one walk of the text's order -/
/-- A world behind W in which nothing old has turned. -/
structure Later (W : World) where
  at_ : World
  below : Below W.heap.size W at_
instance {W : World} : Nonempty (Later W) := ⟨⟨W, Below.refl _ _⟩⟩
theorem lcell {W : World} {a : Addr} {v : Value} (h : W.cell? a = some v) : ∀ x : Later W, x.at_.cell? a = some v := fun x => cell_next x.below h
theorem later_now {W w : World} (h : Below W.heap.size W w) : ∃ x : Later W, w = x.at_ := ⟨⟨w, h⟩, rfl⟩
theorem later_call {P : Program} {f : FuncId} {args : Array Value} {W : World} {x : Later W} {v : Value}
    (h : Calls P f args x.at_ fun e w' => e = .returned v ∧ Below x.at_.heap.size x.at_ w') : Calls P f args x.at_ fun e w' => e = .returned v ∧ ∃ y : Later W, w' = y.at_ :=
  h.mono fun _ _ ⟨he, hb⟩ => ⟨he, ⟨⟨_, bthen x.below hb x.below.size⟩, rfl⟩⟩
theorem later_same {P : Program} {f : FuncId} {args : Array Value} {W : World} {x : Later W} {v : Value}
    (h : Calls P f args x.at_ fun e w' => e = .returned v ∧ x.at_ = w') : Calls P f args x.at_ fun e w' => e = .returned v ∧ ∃ y : Later W, w' = y.at_ :=
  h.mono fun _ _ ⟨he, hb⟩ => ⟨he, ⟨x, hb.symm⟩⟩
theorem later_drew {P : Program} {f : FuncId} {args : Array Value} {W : World} {x : Later W} {v : Value}
    (h : Calls P f args x.at_ fun e w' => e = .returned v ∧ ∃ k, w' = x.at_.drewN k) : Calls P f args x.at_ fun e w' => e = .returned v ∧ ∃ y : Later W, w' = y.at_ :=
  h.mono fun _ _ ⟨he, k, hb⟩ => ⟨he, ⟨⟨_, bdrewN x.below k⟩, hb⟩⟩
theorem region_later {P : Program} {id : Nat} {Q : Exit → Act → World → Prop} {a : Act} {w W : World} {l : List Oper} (hm : P.follows .mixedOrders = true) (hB : Region.lexB .any l.toArray = true) (hW : Below W.heap.size W w)
    (h : wpQuiet P l.toArray (fun w' => ∃ x : Later W, w' = x.at_) (fun a' => ∀ w', (∃ x : Later W, w' = x.at_) → Q .normal a' w') l a) : (Code.region id l.toArray true).wp P Q a w :=
  wp_region_quiet (C := fun w' => ∃ x : Later W, w' = x.at_) hm hB (later_now hW.drew) (by simpa using h)

/-! ### A row that a loop collects -/
def Acc (w : World) (e : TypeId) (z : Nat) (cs : List Value) (v : Value) (n : Nat) (xs : List Value) (wr : World) : Prop :=
  wr.ownsRow (w.heap.size + 1) e z v n xs ∧ Below w.heap.size w wr ∧ Has wr w.heap.size cs
theorem Acc.next {w wr w1 : World} {e : TypeId} {z n : Nat} {cs : List Value} {v : Value} {xs : List Value} (h : Acc w e z cs v n xs wr) (hb : Below wr.heap.size wr w1) : Acc w e z cs v n xs w1 :=
  ⟨own_below h.1 hb, bthen h.2.1 hb h.2.1.size, h.2.2.next hb⟩
theorem acc_start {w w2 : World} (e : TypeId) (z : Nat) {cs : List Value} (hb : Below w.heap.size w w2) (hh : Has w2 w.heap.size cs) : Acc w e z cs (.slice (some ⟨w2.heap.size, 0, none⟩) 0 0) 0 [] (w2.alloc (.cells #[] e)) :=
  ⟨World.ownsRow_made (base := w.heap.size + 1) (e := e) (size := z) w2 #[] 0 hh.1 (by unfold maxLen; omega) (by simp), hb.alloc hb.size _, hh.alloc _⟩
theorem acc_nil {w w2 : World} (e : TypeId) (z : Nat) {cs : List Value} (hb : Below w.heap.size w w2) (hh : Has w2 w.heap.size cs) : Acc w e z cs (.slice none 0 0) 0 [] w2 :=
  ⟨⟨by simp, .inl ⟨rfl, rfl⟩⟩, hb, hh⟩
theorem Acc.step {w w1 w2 : World} {e : TypeId} {z n m : Nat} {cs : List Value} {v v' : Value} {xs ys : List Value} {o : Obj} (h : Acc w e z cs v n xs w1)
    (ho : w2.ownsRow (w.heap.size + 1) e z v' m ys) (hg : (w1.alloc o).grownBy w2 v.ownBlock) : Acc w e z cs v' m ys w2 := by
  have hlt : ∀ j, v.ownBlock = some j → w.heap.size + 1 ≤ j := fun j hj => (h.1.lt j hj).1
  exact ⟨ho, (h.2.1.alloc h.2.1.size o).grown hg (by have := h.2.1.size; simp; omega) (fun j hj => by have := hlt j hj; omega), has_grown (h.2.2.alloc o) hg (fun e => by have := hlt _ e.symm; omega)⟩
theorem own_slice {W : World} {B n : Nat} {T : TypeId} {z : Nat} {v : Value} {xs : List Value} (h : W.ownsRow B T z v n xs) : ∃ R cap, v = .slice R n cap := by
  rcases h.2 with ⟨h1, h2⟩ | ⟨g, cap, cur, hv, _⟩
  · exact ⟨none, 0, by rw [h1, h2]⟩
  · exact ⟨_, _, hv⟩
theorem two_new (w : World) (x y : Value) (T : TypeId) : ∀ (j : Nat) (u : Value), [x, y][j]? = some u → (w.alloc (.cells #[x, y] T)).cell? ((⟨w.heap.size, 0, none⟩ : Addr).add j) = some u := by
  intro j u hu
  rcases j with _ | _ | j
  · simp [Addr.add, World.cell?_alloc_new] at hu ⊢; exact hu
  · simp [Addr.add, World.cell?_alloc_new] at hu ⊢; exact hu
  · simp at hu
/-- A row of pairs and a bool, handed back. -/
def PairsPost (L : List (Int × Int)) (K : Bool) (w : World) (e : Ending) (w' : World) : Prop :=
  ∃ A c, e = .returned (.tuple #[.slice A L.length c, .bool K]) ∧ Own2 w' w.heap.size w'.heap.size A L.length L ∧ Below w.heap.size w w'
theorem pairs_of_acc {w w' : World} {e : TypeId} {cs : List Value} {v : Value} {n : Nat} {L : List (Int × Int)} {K : Bool} (h : Acc w e 2 cs v n (cells2 L) w') (hn : L.length = n) : PairsPost L K w (.returned (.tuple #[v, .bool K])) w' := by
  obtain ⟨A, c, rfl⟩ := own_slice h.1
  subst hn
  exact ⟨A, c, rfl, (own2_of_row h.1 rfl).wide (Nat.le_succ _) (Nat.le_refl _), h.2.1⟩

theorem own_any {W W' : World} {B n : Nat} {T : TypeId} {z : Nat} {v : Value} {xs : List Value} {row : Option Nat} (h : W.ownsRow B T z v n xs) (hg : W.grownBy W' row) (hr : ∀ g, row = some g → g < B) : W'.ownsRow B T z v n xs := by
  refine h.kept (row := row) hg ?_
  by_cases e : v.ownBlock = none
  · exact Or.inl e
  · refine Or.inr fun e2 => ?_
    obtain ⟨g, hg2⟩ := Option.ne_none_iff_exists'.1 e
    have h1 := (h.lt g hg2).1
    have h2 := hr g (e2.symm.trans hg2)
    omega
theorem grown_set (W : World) (p : Addr) (u : Value) : W.grownBy (W.setCell p u) (some p.block) :=
  ⟨rfl, rfl, rfl, by simp [World.setCell], fun i _ hne => Below.heap_setCell _ _ _ _ (fun e => hne (by rw [e]))⟩
theorem Acc.put {w w1 : World} {e : TypeId} {z n : Nat} {cs : List Value} {v : Value} {xs : List Value} (h : Acc w e z cs v n xs w1) (j : Nat) (u : Value) : Acc w e z (cs.set j u) v n xs (w1.setCell ⟨w.heap.size, j, none⟩ u) :=
  ⟨own_any h.1 (grown_set _ _ _) (fun g hg => by have := Option.some.inj hg; simp only at this; omega), h.2.1.setCell (p := ⟨w.heap.size, j, none⟩) (Nat.le_refl _) u, h.2.2.set j u⟩
/-- A struct with a row of pairs and a bool, handed back. -/
def GaugePost (id : Int) (nm : ByteArray) (ze : Int) (L : List (Int × Int)) (K : Bool) (w : World) (e : Ending) (w' : World) : Prop :=
  ∃ A c, e = .returned (.tuple #[.agg #[.int .i64 id, .string nm, .int .i64 ze, .slice A L.length c], .bool K]) ∧ Own2 w' w.heap.size w'.heap.size A L.length L ∧ Below w.heap.size w w' ∧ L.length ≤ c
end Go.Proofs.Ytjekmmekkfmplaa
