/-
  Rows of casts: contracts of laws.szCastS, toCastS, eqCastS over this translation. Conditions: stated at each theorem.
-/
import Derived.Test.YtdmnkmdlochogabZo
import Derived.Test.YtdmnkmdlochogabZg
namespace Go.Proofs.Ytdmnkmdlochogab
open Go.RowKit

/-! ### laws.szCastS -/
def szKL : List KC → Nat
  | [] => 0
  | g :: t => g.l.length + szKL t
theorem szKL_snoc (L : List KC) (g : KC) : szKL (L ++ [g]) = szKL L + (g.l.length) := by
  induction L with
  | nil => simp [szKL]
  | cons x t ih => simp only [List.cons_append, szKL, ih]; omega
theorem szKL_take {L : List KC} {k : Nat} {g : KC} (h : L[k]? = some g) : szKL (L.take (k + 1)) = szKL (L.take k) + (g.l.length) := by
  obtain ⟨hk, rfl⟩ := List.getElem?_eq_some_iff.1 h
  rw [List.take_succ_eq_append_getElem hk, szKL_snoc]
theorem szKL_le (L : List KC) (k : Nat) : szKL (L.take k) ≤ szKL L := by
  induction L generalizing k with
  | nil => simp [szKL]
  | cons x t ih =>
    cases k with
    | zero => simp [szKL]
    | succ k => have := ih k; simp only [List.take_succ_cons, szKL]; omega
theorem szKL_at {L : List KC} {k : Nat} {g : KC} (h : L[k]? = some g) : g.l.length ≤ szKL L := by
  have h1 := szKL_take h
  have h2 := szKL_le L (k + 1)
  omega
/-! ### laws.toCastS -/
theorem infoCast : (Try.prog.info? 64).map (fun i => (i.zero, i.size, i.bytes)) = some (some (.agg #[.int .i64 0, .int .i64 0, .int .i64 0, .int .i64 0, .slice none 0 0]), 5, 56) := by kernel_rfl
/-- Block g holds n casts, the first k of which are those of L, their layers in blocks behind g; all may be written. -/
structure FillK (w : World) (B g n k : Nat) (L : List KC) : Prop where
  low : B ≤ g
  lt : g < w.heap.size
  free : ∀ j, w.frozen? ⟨g, j, none⟩ = false
  cells : ∀ j, j < n → ∃ v0 v1 v2 v3 v4 : Value, w.cell? ⟨g, j * 5, none⟩ = some v0 ∧ w.cell? ⟨g, j * 5 + 1, none⟩ = some v1 ∧ w.cell? ⟨g, j * 5 + 2, none⟩ = some v2 ∧ w.cell? ⟨g, j * 5 + 3, none⟩ = some v3 ∧ w.cell? ⟨g, j * 5 + 4, none⟩ = some v4 ∧
    (j < k → ∃ (id tm x y : Int) (l : List (Int × Int)) (A' : Option Addr), L[j]? = some ⟨id, tm, x, y, l⟩ ∧ v0 = .int .i64 id ∧ v1 = .int .i64 tm ∧ v2 = .int .i64 x ∧ v3 = .int .i64 y ∧ v4 = .slice A' l.length l.length ∧ Own2 w (g + 1) w.heap.size A' l.length l)
theorem FillK.next {w w' : World} {B g n k : Nat} {L : List KC} (h : FillK w B g n k L) (hb : Below w.heap.size w w') : FillK w' B g n k L :=
  ⟨h.low, Nat.lt_of_lt_of_le h.lt hb.size, fun j => (hb.frozen (p := ⟨g, j, none⟩) h.lt).trans (h.free j), fun j hj => by
    obtain ⟨v0, v1, v2, v3, v4, h0, h1, h2, h3, h4, h5⟩ := h.cells j hj
    exact ⟨v0, v1, v2, v3, v4, (hb.cell (p := ⟨g, _, none⟩) h.lt).trans h0, (hb.cell (p := ⟨g, _, none⟩) h.lt).trans h1, (hb.cell (p := ⟨g, _, none⟩) h.lt).trans h2, (hb.cell (p := ⟨g, _, none⟩) h.lt).trans h3, (hb.cell (p := ⟨g, _, none⟩) h.lt).trans h4, fun hjk => by
      obtain ⟨id, tm, x, y, l, A', hL, e0, e1, e2, e3, e4, ho⟩ := h5 hjk
      exact ⟨id, tm, x, y, l, A', hL, e0, e1, e2, e3, e4, (ho.on hb (Nat.le_refl _)).wide (Nat.le_refl _) hb.size⟩⟩⟩
def set5 (w : World) (g k : Nat) (v0 v1 v2 v3 v4 : Value) : World :=
  ((((w.setCell ⟨g, k * 5, none⟩ v0).setCell ⟨g, k * 5 + 1, none⟩ v1).setCell ⟨g, k * 5 + 2, none⟩ v2).setCell ⟨g, k * 5 + 3, none⟩ v3).setCell ⟨g, k * 5 + 4, none⟩ v4
theorem set5_other (w : World) (g k : Nat) (v0 v1 v2 v3 v4 : Value) (p : Addr) (h : p.block ≠ g ∨ (p.spot = none ∧ (p.off < k * 5 ∨ k * 5 + 4 < p.off))) : (set5 w g k v0 v1 v2 v3 v4).cell? p = w.cell? p := by
  unfold set5
  have ne : ∀ o, k * 5 ≤ o → o ≤ k * 5 + 4 → (⟨g, o, none⟩ : Addr) ≠ p := fun o h1 h2 e => by subst e; simp at h; omega
  rw [World.cell?_setCell_other _ _ _ _ (ne _ (by omega) (by omega)), World.cell?_setCell_other _ _ _ _ (ne _ (by omega) (by omega)), World.cell?_setCell_other _ _ _ _ (ne _ (by omega) (by omega)), World.cell?_setCell_other _ _ _ _ (ne _ (by omega) (by omega)), World.cell?_setCell_other _ _ _ _ (ne _ (by omega) (by omega))]
theorem set5_frozen (w : World) (g k : Nat) (v0 v1 v2 v3 v4 : Value) (p : Addr) : (set5 w g k v0 v1 v2 v3 v4).frozen? p = w.frozen? p := by
  unfold set5
  rw [World.frozen?_setCell, World.frozen?_setCell, World.frozen?_setCell, World.frozen?_setCell, World.frozen?_setCell]
theorem set5_size (w : World) (g k : Nat) (v0 v1 v2 v3 v4 : Value) : (set5 w g k v0 v1 v2 v3 v4).heap.size = w.heap.size := by
  unfold set5; simp [World.setCell]
theorem set5_cells {w : World} {g k : Nat} (v0 v1 v2 v3 v4 : Value) {u0 u1 u2 u3 u4 : Value} (h0 : w.cell? ⟨g, k * 5, none⟩ = some u0) (h1 : w.cell? ⟨g, k * 5 + 1, none⟩ = some u1) (h2 : w.cell? ⟨g, k * 5 + 2, none⟩ = some u2) (h3 : w.cell? ⟨g, k * 5 + 3, none⟩ = some u3) (h4 : w.cell? ⟨g, k * 5 + 4, none⟩ = some u4) :
    (set5 w g k v0 v1 v2 v3 v4).cell? ⟨g, k * 5, none⟩ = some v0 ∧ (set5 w g k v0 v1 v2 v3 v4).cell? ⟨g, k * 5 + 1, none⟩ = some v1 ∧ (set5 w g k v0 v1 v2 v3 v4).cell? ⟨g, k * 5 + 2, none⟩ = some v2 ∧ (set5 w g k v0 v1 v2 v3 v4).cell? ⟨g, k * 5 + 3, none⟩ = some v3 ∧ (set5 w g k v0 v1 v2 v3 v4).cell? ⟨g, k * 5 + 4, none⟩ = some v4 := by
  unfold set5
  have ne : ∀ a b : Nat, a ≠ b → (⟨g, a, none⟩ : Addr) ≠ ⟨g, b, none⟩ := fun a b h e => by injection e with _ h2; exact h h2
  have O := fun (W : World) (v : Value) (a b : Nat) (h : a ≠ b) => World.cell?_setCell_other W ⟨g, a, none⟩ ⟨g, b, none⟩ v (ne a b h)
  refine ⟨?_, ?_, ?_, ?_, ?_⟩
  · rw [O _ _ _ _ (by omega), O _ _ _ _ (by omega), O _ _ _ _ (by omega), O _ _ _ _ (by omega)]
    exact World.cell?_setCell_same _ _ _ h0
  · rw [O _ _ _ _ (by omega), O _ _ _ _ (by omega), O _ _ _ _ (by omega)]
    exact World.cell?_setCell_same _ _ _ ((O _ _ _ _ (by omega)).trans h1)
  · rw [O _ _ _ _ (by omega), O _ _ _ _ (by omega)]
    exact World.cell?_setCell_same _ _ _ ((O _ _ _ _ (by omega)).trans ((O _ _ _ _ (by omega)).trans h2))
  · rw [O _ _ _ _ (by omega)]
    exact World.cell?_setCell_same _ _ _ ((O _ _ _ _ (by omega)).trans ((O _ _ _ _ (by omega)).trans ((O _ _ _ _ (by omega)).trans h3)))
  · exact World.cell?_setCell_same _ _ _ ((O _ _ _ _ (by omega)).trans ((O _ _ _ _ (by omega)).trans ((O _ _ _ _ (by omega)).trans ((O _ _ _ _ (by omega)).trans h4))))
theorem Own2.set5 {w : World} {lo hi n : Nat} {A : Option Addr} {l : List (Int × Int)} (h : Own2 w lo hi A n l) (g k : Nat) (v0 v1 v2 v3 v4 : Value) (hg : g < lo) : Own2 (set5 w g k v0 v1 v2 v3 v4) lo hi A n l :=
  ((((h.put ⟨g, k * 5, none⟩ v0 (.inl hg)).put ⟨g, k * 5 + 1, none⟩ v1 (.inl hg)).put ⟨g, k * 5 + 2, none⟩ v2 (.inl hg)).put ⟨g, k * 5 + 3, none⟩ v3 (.inl hg)).put ⟨g, k * 5 + 4, none⟩ v4 (.inl hg)
theorem fillK_step {w : World} {B g n k : Nat} {L : List KC} {id tm x y : Int} {l : List (Int × Int)} {A' : Option Addr} (h : FillK w B g n k L) (hk : k < n) (hl : L[k]? = some ⟨id, tm, x, y, l⟩) (ho : Own2 w (g + 1) w.heap.size A' l.length l) :
    FillK (set5 w g k (.int .i64 id) (.int .i64 tm) (.int .i64 x) (.int .i64 y) (.slice A' l.length l.length)) B g n (k + 1) L := by
  refine ⟨h.low, by rw [set5_size]; exact h.lt, fun j => (set5_frozen _ _ _ _ _ _ _ _ _).trans (h.free j), fun j hj => ?_⟩
  rw [set5_size]
  by_cases e : j = k
  · subst e
    obtain ⟨v0, v1, v2, v3, v4, h0, h1, h2, h3, h4, _⟩ := h.cells j hj
    obtain ⟨g0, g1, g2, g3, g4⟩ := set5_cells (.int .i64 id) (.int .i64 tm) (.int .i64 x) (.int .i64 y) (.slice A' l.length l.length) h0 h1 h2 h3 h4
    exact ⟨_, _, _, _, _, g0, g1, g2, g3, g4, fun _ => ⟨id, tm, x, y, l, A', hl, rfl, rfl, rfl, rfl, rfl, ho.set5 g j _ _ _ _ _ (Nat.lt_succ_self _)⟩⟩
  · obtain ⟨v0, v1, v2, v3, v4, h0, h1, h2, h3, h4, h5⟩ := h.cells j hj
    have O := fun (o : Nat) (ho : j * 5 ≤ o ∧ o ≤ j * 5 + 4) => set5_other w g k (.int .i64 id) (.int .i64 tm) (.int .i64 x) (.int .i64 y) (.slice A' l.length l.length) ⟨g, o, none⟩ (.inr ⟨rfl, by simp only; omega⟩)
    exact ⟨v0, v1, v2, v3, v4, (O _ (by omega)).trans h0, (O _ (by omega)).trans h1, (O _ (by omega)).trans h2, (O _ (by omega)).trans h3, (O _ (by omega)).trans h4, fun hjk => by
      obtain ⟨id', tm', x', y', l', A2, hL, e0, e1, e2, e3, e4, ho'⟩ := h5 (by omega)
      exact ⟨id', tm', x', y', l', A2, hL, e0, e1, e2, e3, e4, ho'.set5 g k _ _ _ _ _ (Nat.lt_succ_self _)⟩⟩
theorem fillK_new {w1 : World} {B g n : Nat} {L : List KC} (h : w1.ownsRow B 64 5 (.slice (some ⟨g, 0, none⟩) n n) n (madeCells (Value.agg #[.int .i64 0, .int .i64 0, .int .i64 0, .int .i64 0, .slice none 0 0]).cells (n * 5)).toList) : FillK w1 B g n 0 L := by
  refine ⟨(h.lt g rfl).1, (h.lt g rfl).2, fun j => h.frozenAt j, fun j hj => ?_⟩
  have hl : ∀ o, o < n * 5 → ∃ v, w1.cell? ⟨g, o, none⟩ = some v := fun o ho => by
    rw [h.cellAt o (by omega)]
    have h1 := h.1
    exact ⟨_, List.getElem?_eq_getElem (by omega)⟩
  obtain ⟨v0, h0⟩ := hl (j * 5) (by omega)
  obtain ⟨v1, h1⟩ := hl (j * 5 + 1) (by omega)
  obtain ⟨v2, h2⟩ := hl (j * 5 + 2) (by omega)
  obtain ⟨v3, h3⟩ := hl (j * 5 + 3) (by omega)
  obtain ⟨v4, h4⟩ := hl (j * 5 + 4) (by omega)
  exact ⟨v0, v1, v2, v3, v4, h0, h1, h2, h3, h4, fun hlt => absurd hlt (by omega)⟩
theorem below_set5 {B : Nat} {a w : World} (h : Below B a w) {g : Nat} (hg : B ≤ g) (k : Nat) (v0 v1 v2 v3 v4 : Value) : Below B a (set5 w g k v0 v1 v2 v3 v4) :=
  ((((h.setCell (p := ⟨g, k * 5, none⟩) hg v0).setCell (p := ⟨g, k * 5 + 1, none⟩) hg v1).setCell (p := ⟨g, k * 5 + 2, none⟩) hg v2).setCell (p := ⟨g, k * 5 + 3, none⟩) hg v3).setCell (p := ⟨g, k * 5 + 4, none⟩) hg v4
theorem casts_of_fill {w : World} {B g n : Nat} {L : List KC} (h : FillK w B g n n L) (hn : L.length = n) (hb : n + szKL L ≤ 1048576) : Casts w w.heap.size (some ⟨g, 0, none⟩) n L :=
  ⟨hn, fun k hk => by
    obtain ⟨v0, v1, v2, v3, v4, h0, h1, h2, h3, h4, h5⟩ := h.cells k hk
    obtain ⟨id, tm, x, y, l, A', hL, rfl, rfl, rfl, rfl, rfl, ho⟩ := h5 hk
    have hz := szKL_at hL
    dsimp only at hz
    exact ⟨g, 0, id, tm, x, y, l, A', l.length, rfl, h.lt, hL, by rw [Nat.zero_add]; exact h0, by rw [Nat.zero_add]; exact h1, by rw [Nat.zero_add]; exact h2, by rw [Nat.zero_add]; exact h3, by rw [Nat.zero_add]; exact h4, ho.spots (Nat.le_refl _), by unfold maxLen; omega⟩⟩
def CopyKs (L : List KC) (w : World) (e : Ending) (w' : World) : Prop :=
  ∃ g, e = .returned (.slice (some ⟨g, 0, none⟩) L.length L.length) ∧ FillK w' w.heap.size g L.length L.length L ∧ Below w.heap.size w w'
end Go.Proofs.Ytdmnkmdlochogab
