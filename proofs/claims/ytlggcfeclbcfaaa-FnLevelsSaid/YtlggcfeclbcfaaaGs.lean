/-
  Rows of gauges: how they read; contracts of laws.szGaugeS, toGaugeS, eqGaugeS over this translation. Conditions: stated at each theorem.
-/
import Derived.Test.YtlggcfeclbcfaaaOg
import Derived.Test.YtlggcfeclbcfaaaGl
namespace Go.Proofs.Ytlggcfeclbcfaaa
open Go.Joins Go.ChangeShapes Go.WideShapes Go.ChangeAt Go.RowKit Go.Deep

structure GG where
  id : Int
  nm : ByteArray
  ze : Int
  l : List (Int × Int)
/-- The slice value with address A and n elements reads as the gauges L; all lies below B. -/
def Gauges (w : World) (B : Nat) (A : Option Addr) (n : Nat) (L : List GG) : Prop :=
  L.length = n ∧ ∀ k, k < n → ∃ (b o : Nat) (id : Int) (nm : ByteArray) (ze : Int) (l : List (Int × Int)) (A' : Option Addr) (c : Nat), A = some ⟨b, o, none⟩ ∧ b < B ∧ L[k]? = some ⟨id, nm, ze, l⟩ ∧
    w.cell? ⟨b, o + k * 4, none⟩ = some (.int .i64 id) ∧ w.cell? ⟨b, o + k * 4 + 1, none⟩ = some (.string nm) ∧ w.cell? ⟨b, o + k * 4 + 2, none⟩ = some (.int .i64 ze) ∧ w.cell? ⟨b, o + k * 4 + 3, none⟩ = some (.slice A' l.length c) ∧
    Spots w B A' l.length l ∧ l.length ≤ maxLen ∧ nm.size ≤ maxLen
theorem Gauges.on {w w' : World} {B B' n : Nat} {A : Option Addr} {L : List GG} (h : Gauges w B A n L) (hb : Below B' w w') (hB : B ≤ B') : Gauges w' B A n L :=
  ⟨h.1, fun k hk => by
    obtain ⟨b, o, id, nm, ze, l, A', c, hA, hlt, hL, h0, h1, h2, h3, hs, r⟩ := h.2 k hk
    have hg := Nat.lt_of_lt_of_le hlt hB
    exact ⟨b, o, id, nm, ze, l, A', c, hA, hlt, hL, (hb.cell (p := ⟨b, _, none⟩) hg).trans h0, (hb.cell (p := ⟨b, _, none⟩) hg).trans h1, (hb.cell (p := ⟨b, _, none⟩) hg).trans h2, (hb.cell (p := ⟨b, _, none⟩) hg).trans h3, hs.on hb hB, r⟩⟩
theorem Gauges.up {w : World} {B B' n : Nat} {A : Option Addr} {L : List GG} (h : Gauges w B A n L) (hB : B ≤ B') : Gauges w B' A n L :=
  ⟨h.1, fun k hk => by
    obtain ⟨b, o, id, nm, ze, l, A', c, hA, hlt, hL, h0, h1, h2, h3, hs, r⟩ := h.2 k hk
    exact ⟨b, o, id, nm, ze, l, A', c, hA, Nat.lt_of_lt_of_le hlt hB, hL, h0, h1, h2, h3, ⟨hs.1, fun i hi => by
      obtain ⟨b', o', x, y, hA', hlt', q⟩ := hs.2 i hi
      exact ⟨b', o', x, y, hA', Nat.lt_of_lt_of_le hlt' hB, q⟩⟩, r⟩⟩
theorem gauges_at {w W : World} {n : Nat} {A : Option Addr} {L : List GG} (h : Gauges w w.heap.size A n L) (hb : Below w.heap.size w W) : Gauges W W.heap.size A n L :=
  (h.on hb (Nat.le_refl _)).up hb.size

/-! ### An argument -/
section
variable {H : Type} {enc : TypeId × Value → H} {w : World}
end

/-! ### laws.szGaugeS -/
def szL : List GG → Nat
  | [] => 0
  | g :: t => g.nm.size + g.l.length + szL t
theorem szL_snoc (L : List GG) (g : GG) : szL (L ++ [g]) = szL L + (g.nm.size + g.l.length) := by
  induction L with
  | nil => simp [szL]
  | cons x t ih => simp only [List.cons_append, szL, ih]; omega
theorem szL_take {L : List GG} {k : Nat} {g : GG} (h : L[k]? = some g) : szL (L.take (k + 1)) = szL (L.take k) + (g.nm.size + g.l.length) := by
  obtain ⟨hk, rfl⟩ := List.getElem?_eq_some_iff.1 h
  rw [List.take_succ_eq_append_getElem hk, szL_snoc]
theorem szL_le (L : List GG) (k : Nat) : szL (L.take k) ≤ szL L := by
  induction L generalizing k with
  | nil => simp [szL]
  | cons x t ih =>
    cases k with
    | zero => simp [szL]
    | succ k => have := ih k; simp only [List.take_succ_cons, szL]; omega
theorem szL_at {L : List GG} {k : Nat} {g : GG} (h : L[k]? = some g) : g.nm.size + g.l.length ≤ szL L := by
  have h1 := szL_take h
  have h2 := szL_le L (k + 1)
  omega
/-! ### laws.toGaugeS -/
theorem infoGauge : (Try.prog.info? 26).map (fun i => (i.zero, i.size, i.bytes)) = some (some (.agg #[.int .i64 0, .string ⟨#[]⟩, .int .i64 0, .slice none 0 0]), 4, 56) := by kernel_rfl
/-- Block g holds n gauges, the first k of which are those of L, their readings in blocks behind g; all may be written. -/
structure FillG (w : World) (B g n k : Nat) (L : List GG) : Prop where
  low : B ≤ g
  lt : g < w.heap.size
  free : ∀ j, w.frozen? ⟨g, j, none⟩ = false
  cells : ∀ j, j < n → ∃ v0 v1 v2 v3 : Value, w.cell? ⟨g, j * 4, none⟩ = some v0 ∧ w.cell? ⟨g, j * 4 + 1, none⟩ = some v1 ∧ w.cell? ⟨g, j * 4 + 2, none⟩ = some v2 ∧ w.cell? ⟨g, j * 4 + 3, none⟩ = some v3 ∧
    (j < k → ∃ (id : Int) (nm : ByteArray) (ze : Int) (l : List (Int × Int)) (A' : Option Addr), L[j]? = some ⟨id, nm, ze, l⟩ ∧ v0 = .int .i64 id ∧ v1 = .string nm ∧ v2 = .int .i64 ze ∧ v3 = .slice A' l.length l.length ∧ Own2 w (g + 1) w.heap.size A' l.length l)
theorem FillG.next {w w' : World} {B g n k : Nat} {L : List GG} (h : FillG w B g n k L) (hb : Below w.heap.size w w') : FillG w' B g n k L :=
  ⟨h.low, Nat.lt_of_lt_of_le h.lt hb.size, fun j => (hb.frozen (p := ⟨g, j, none⟩) h.lt).trans (h.free j), fun j hj => by
    obtain ⟨v0, v1, v2, v3, h0, h1, h2, h3, h4⟩ := h.cells j hj
    exact ⟨v0, v1, v2, v3, (hb.cell (p := ⟨g, _, none⟩) h.lt).trans h0, (hb.cell (p := ⟨g, _, none⟩) h.lt).trans h1, (hb.cell (p := ⟨g, _, none⟩) h.lt).trans h2, (hb.cell (p := ⟨g, _, none⟩) h.lt).trans h3, fun hjk => by
      obtain ⟨id, nm, ze, l, A', hL, e0, e1, e2, e3, ho⟩ := h4 hjk
      exact ⟨id, nm, ze, l, A', hL, e0, e1, e2, e3, (ho.on hb (Nat.le_refl _)).wide (Nat.le_refl _) hb.size⟩⟩⟩
def set4 (w : World) (g k : Nat) (v0 v1 v2 v3 : Value) : World :=
  (((w.setCell ⟨g, k * 4, none⟩ v0).setCell ⟨g, k * 4 + 1, none⟩ v1).setCell ⟨g, k * 4 + 2, none⟩ v2).setCell ⟨g, k * 4 + 3, none⟩ v3
theorem set4_other (w : World) (g k : Nat) (v0 v1 v2 v3 : Value) (p : Addr) (h : p.block ≠ g ∨ (p.spot = none ∧ (p.off < k * 4 ∨ k * 4 + 3 < p.off))) : (set4 w g k v0 v1 v2 v3).cell? p = w.cell? p := by
  unfold set4
  have ne : ∀ o, k * 4 ≤ o → o ≤ k * 4 + 3 → (⟨g, o, none⟩ : Addr) ≠ p := fun o h1 h2 e => by subst e; simp at h; omega
  rw [World.cell?_setCell_other _ _ _ _ (ne _ (by omega) (by omega)), World.cell?_setCell_other _ _ _ _ (ne _ (by omega) (by omega)), World.cell?_setCell_other _ _ _ _ (ne _ (by omega) (by omega)), World.cell?_setCell_other _ _ _ _ (ne _ (by omega) (by omega))]
theorem set4_frozen (w : World) (g k : Nat) (v0 v1 v2 v3 : Value) (p : Addr) : (set4 w g k v0 v1 v2 v3).frozen? p = w.frozen? p := by
  unfold set4
  rw [World.frozen?_setCell, World.frozen?_setCell, World.frozen?_setCell, World.frozen?_setCell]
theorem set4_size (w : World) (g k : Nat) (v0 v1 v2 v3 : Value) : (set4 w g k v0 v1 v2 v3).heap.size = w.heap.size := by
  unfold set4; simp [World.setCell]
theorem set4_cells {w : World} {g k : Nat} (v0 v1 v2 v3 : Value) {u0 u1 u2 u3 : Value} (h0 : w.cell? ⟨g, k * 4, none⟩ = some u0) (h1 : w.cell? ⟨g, k * 4 + 1, none⟩ = some u1) (h2 : w.cell? ⟨g, k * 4 + 2, none⟩ = some u2) (h3 : w.cell? ⟨g, k * 4 + 3, none⟩ = some u3) :
    (set4 w g k v0 v1 v2 v3).cell? ⟨g, k * 4, none⟩ = some v0 ∧ (set4 w g k v0 v1 v2 v3).cell? ⟨g, k * 4 + 1, none⟩ = some v1 ∧ (set4 w g k v0 v1 v2 v3).cell? ⟨g, k * 4 + 2, none⟩ = some v2 ∧ (set4 w g k v0 v1 v2 v3).cell? ⟨g, k * 4 + 3, none⟩ = some v3 := by
  unfold set4
  have ne : ∀ a b : Nat, a ≠ b → (⟨g, a, none⟩ : Addr) ≠ ⟨g, b, none⟩ := fun a b h e => by injection e with _ h2; exact h h2
  have O := fun (W : World) (v : Value) (a b : Nat) (h : a ≠ b) => World.cell?_setCell_other W ⟨g, a, none⟩ ⟨g, b, none⟩ v (ne a b h)
  refine ⟨?_, ?_, ?_, ?_⟩
  · rw [O _ _ _ _ (by omega), O _ _ _ _ (by omega), O _ _ _ _ (by omega)]
    exact World.cell?_setCell_same _ _ _ h0
  · rw [O _ _ _ _ (by omega), O _ _ _ _ (by omega)]
    exact World.cell?_setCell_same _ _ _ ((O _ _ _ _ (by omega)).trans h1)
  · rw [O _ _ _ _ (by omega)]
    exact World.cell?_setCell_same _ _ _ ((O _ _ _ _ (by omega)).trans ((O _ _ _ _ (by omega)).trans h2))
  · exact World.cell?_setCell_same _ _ _ ((O _ _ _ _ (by omega)).trans ((O _ _ _ _ (by omega)).trans ((O _ _ _ _ (by omega)).trans h3)))
theorem Own2.set4 {w : World} {lo hi n : Nat} {A : Option Addr} {l : List (Int × Int)} (h : Own2 w lo hi A n l) (g k : Nat) (v0 v1 v2 v3 : Value) (hg : g < lo) : Own2 (set4 w g k v0 v1 v2 v3) lo hi A n l :=
  (((h.put ⟨g, k * 4, none⟩ v0 (.inl hg)).put ⟨g, k * 4 + 1, none⟩ v1 (.inl hg)).put ⟨g, k * 4 + 2, none⟩ v2 (.inl hg)).put ⟨g, k * 4 + 3, none⟩ v3 (.inl hg)
theorem fillG_step {w : World} {B g n k : Nat} {L : List GG} {id : Int} {nm : ByteArray} {ze : Int} {l : List (Int × Int)} {A' : Option Addr} (h : FillG w B g n k L) (hk : k < n) (hl : L[k]? = some ⟨id, nm, ze, l⟩) (ho : Own2 w (g + 1) w.heap.size A' l.length l) :
    FillG (set4 w g k (.int .i64 id) (.string nm) (.int .i64 ze) (.slice A' l.length l.length)) B g n (k + 1) L := by
  refine ⟨h.low, by rw [set4_size]; exact h.lt, fun j => (set4_frozen _ _ _ _ _ _ _ _).trans (h.free j), fun j hj => ?_⟩
  rw [set4_size]
  by_cases e : j = k
  · subst e
    obtain ⟨v0, v1, v2, v3, h0, h1, h2, h3, _⟩ := h.cells j hj
    obtain ⟨g0, g1, g2, g3⟩ := set4_cells (.int .i64 id) (.string nm) (.int .i64 ze) (.slice A' l.length l.length) h0 h1 h2 h3
    exact ⟨_, _, _, _, g0, g1, g2, g3, fun _ => ⟨id, nm, ze, l, A', hl, rfl, rfl, rfl, rfl, ho.set4 g j _ _ _ _ (Nat.lt_succ_self _)⟩⟩
  · obtain ⟨v0, v1, v2, v3, h0, h1, h2, h3, h4⟩ := h.cells j hj
    have O := fun (o : Nat) (ho : o = j * 4 ∨ o = j * 4 + 1 ∨ o = j * 4 + 2 ∨ o = j * 4 + 3) => set4_other w g k (.int .i64 id) (.string nm) (.int .i64 ze) (.slice A' l.length l.length) ⟨g, o, none⟩ (.inr ⟨rfl, by simp only; omega⟩)
    exact ⟨v0, v1, v2, v3, (O _ (by omega)).trans h0, (O _ (by omega)).trans h1, (O _ (by omega)).trans h2, (O _ (by omega)).trans h3, fun hjk => by
      obtain ⟨id', nm', ze', l', A2, hL, e0, e1, e2, e3, ho'⟩ := h4 (by omega)
      exact ⟨id', nm', ze', l', A2, hL, e0, e1, e2, e3, ho'.set4 g k _ _ _ _ (Nat.lt_succ_self _)⟩⟩
theorem fillG_new {w1 : World} {B g n : Nat} {L : List GG} (h : w1.ownsRow B 26 4 (.slice (some ⟨g, 0, none⟩) n n) n (madeCells (Value.agg #[.int .i64 0, .string ⟨#[]⟩, .int .i64 0, .slice none 0 0]).cells (n * 4)).toList) : FillG w1 B g n 0 L := by
  refine ⟨(h.lt g rfl).1, (h.lt g rfl).2, fun j => h.frozenAt j, fun j hj => ?_⟩
  have hl : ∀ o, o < n * 4 → ∃ v, w1.cell? ⟨g, o, none⟩ = some v := fun o ho => by
    rw [h.cellAt o (by omega)]
    have h1 := h.1
    exact ⟨_, List.getElem?_eq_getElem (by omega)⟩
  obtain ⟨v0, h0⟩ := hl (j * 4) (by omega)
  obtain ⟨v1, h1⟩ := hl (j * 4 + 1) (by omega)
  obtain ⟨v2, h2⟩ := hl (j * 4 + 2) (by omega)
  obtain ⟨v3, h3⟩ := hl (j * 4 + 3) (by omega)
  exact ⟨v0, v1, v2, v3, h0, h1, h2, h3, fun hlt => absurd hlt (by omega)⟩
theorem below_set4 {B : Nat} {a w : World} (h : Below B a w) {g : Nat} (hg : B ≤ g) (k : Nat) (v0 v1 v2 v3 : Value) : Below B a (set4 w g k v0 v1 v2 v3) :=
  (((h.setCell (p := ⟨g, k * 4, none⟩) hg v0).setCell (p := ⟨g, k * 4 + 1, none⟩) hg v1).setCell (p := ⟨g, k * 4 + 2, none⟩) hg v2).setCell (p := ⟨g, k * 4 + 3, none⟩) hg v3
theorem gauges_of_fill {w : World} {B g n : Nat} {L : List GG} (h : FillG w B g n n L) (hn : L.length = n) (hb : n + szL L ≤ 1048576) : Gauges w w.heap.size (some ⟨g, 0, none⟩) n L :=
  ⟨hn, fun k hk => by
    obtain ⟨v0, v1, v2, v3, h0, h1, h2, h3, h4⟩ := h.cells k hk
    obtain ⟨id, nm, ze, l, A', hL, rfl, rfl, rfl, rfl, ho⟩ := h4 hk
    have hz := szL_at hL
    dsimp only at hz
    exact ⟨g, 0, id, nm, ze, l, A', l.length, rfl, h.lt, hL, by rw [Nat.zero_add]; exact h0, by rw [Nat.zero_add]; exact h1, by rw [Nat.zero_add]; exact h2, by rw [Nat.zero_add]; exact h3, ho.spots (Nat.le_refl _), by unfold maxLen; omega, by unfold maxLen; omega⟩⟩
def CopyGs (L : List GG) (w : World) (e : Ending) (w' : World) : Prop :=
  ∃ g, e = .returned (.slice (some ⟨g, 0, none⟩) L.length L.length) ∧ FillG w' w.heap.size g L.length L.length L ∧ Below w.heap.size w w'
/-! ### laws.eqGaugeS -/
end Go.Proofs.Ytlggcfeclbcfaaa
