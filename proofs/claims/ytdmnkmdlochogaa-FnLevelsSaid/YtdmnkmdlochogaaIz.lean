/-
  What the laws do with rows of numbers and with rows of gauges that they mark: contracts of laws.eqIntS, markIntS, heldIntS, markText, markReadingS, markGaugeS over this translation. Conditions: stated at each theorem.
-/
import Derived.Test.YtdmnkmdlochogaaGs
import Derived.Test.YtdmnkmdlochogaaIi
import Derived.Test.YtdmnkmdlochogaaFb
import Derived.Test.YtdmnkmdlochogaaMt
import Derived.Laws.IdiomStrings
namespace Go.Proofs.Ytdmnkmdlochogaa
open Go.RowKit

/-! ### laws.markGaugeS -/
/-- Whatever stands under numbers written into the blocks from lo on and below hi stands of w' where it stands of w. -/
def Sets (lo hi : Nat) (w w' : World) : Prop := ∀ P : World → Prop, (∀ W p (v : Int), lo ≤ p.block → p.block < hi → P W → P (W.setCell p (.int .i64 v))) → P w → P w'
theorem Sets.refl (lo hi : Nat) (w : World) : Sets lo hi w w := fun _ _ h => h
theorem Sets.setCell {lo hi : Nat} {a w : World} (h : Sets lo hi a w) {p : Addr} (h1 : lo ≤ p.block) (h2 : p.block < hi) (v : Int) : Sets lo hi a (w.setCell p (.int .i64 v)) :=
  fun P hP ha => hP _ _ _ h1 h2 (h P hP ha)
theorem int_set {w : World} {q : Addr} {x : Int} (h : w.cell? q = some (.int .i64 x)) (p : Addr) (v : Int) : ∃ y : Int, (w.setCell p (.int .i64 v)).cell? q = some (.int .i64 y) := by
  by_cases e : p = q
  · subst e; exact ⟨v, World.cell?_setCell_same _ _ _ h⟩
  · exact ⟨x, (World.cell?_setCell_other _ _ _ _ e).trans h⟩
theorem mk2_set {w : World} {lo hi n : Nat} {A : Option Addr} (h : Mk2 w lo hi A n 0) (p : Addr) (v : Int) : Mk2 (w.setCell p (.int .i64 v)) lo hi A n 0 := fun j hj => by
  obtain ⟨g, x, y, hA, a, b, _, c0, c1, f0, f1⟩ := h j hj
  obtain ⟨x', d0⟩ := int_set c0 p v
  obtain ⟨y', d1⟩ := int_set c1 p v
  exact ⟨g, x', y', hA, a, b, fun h => absurd h (by omega), d0, d1, (World.frozen?_setCell _ _ _ _).trans f0, (World.frozen?_setCell _ _ _ _).trans f1⟩
theorem mk2_on {w w' : World} {lo hi B n : Nat} {A : Option Addr} (h : Mk2 w lo hi A n 0) (hb : Below B w w') (hB : hi ≤ B) : Mk2 w' lo hi A n 0 := fun j hj => by
  obtain ⟨g, x, y, hA, a, b, q, c0, c1, f0, f1⟩ := h j hj
  have hg := Nat.lt_of_lt_of_le b hB
  exact ⟨g, x, y, hA, a, b, q, (hb.cell (p := ⟨g, _, none⟩) hg).trans c0, (hb.cell (p := ⟨g, _, none⟩) hg).trans c1, (hb.frozen (p := ⟨g, _, none⟩) hg).trans f0, (hb.frozen (p := ⟨g, _, none⟩) hg).trans f1⟩
theorem mk2_put {w : World} {lo hi n : Nat} {A : Option Addr} (h : Mk2 w lo hi A n 0) (p : Addr) (v : Value) (hp : p.block < lo) : Mk2 (w.setCell p v) lo hi A n 0 := fun j hj => by
  obtain ⟨g, x, y, hA, a, b, q, c0, c1, f0, f1⟩ := h j hj
  have ne : ∀ o : Nat, p ≠ (⟨g, o, none⟩ : Addr) := fun o e => by subst e; simp at hp; omega
  exact ⟨g, x, y, hA, a, b, q, (World.cell?_setCell_other _ _ _ _ (ne _)).trans c0, (World.cell?_setCell_other _ _ _ _ (ne _)).trans c1, (World.frozen?_setCell _ _ _ _).trans f0, (World.frozen?_setCell _ _ _ _).trans f1⟩
structure OG (w : World) (lo hi g n : Nat) : Prop where
  low : lo ≤ g
  lt : g < hi
  size : hi ≤ w.heap.size
  free : ∀ j, w.frozen? ⟨g, j, none⟩ = false
  cells : ∀ j, j < n → ∃ (v0 v1 v2 : Value) (A' : Option Addr) (m c : Nat), w.cell? ⟨g, j * 4, none⟩ = some v0 ∧ w.cell? ⟨g, j * 4 + 1, none⟩ = some v1 ∧ w.cell? ⟨g, j * 4 + 2, none⟩ = some v2 ∧ w.cell? ⟨g, j * 4 + 3, none⟩ = some (.slice A' m c) ∧ m ≤ 1048576 ∧ Mk2 w (g + 1) hi A' m 0
theorem og_of_fill {w : World} {B g n : Nat} {L : List GG} (h : FillG w B g n n L) (hb : n + szL L ≤ 1048576) : OG w B w.heap.size g n :=
  ⟨h.low, h.lt, Nat.le_refl _, h.free, fun j hj => by
    obtain ⟨v0, v1, v2, v3, h0, h1, h2, h3, h4⟩ := h.cells j hj
    obtain ⟨id, nm, ze, l, A', hL, rfl, rfl, rfl, rfl, ho⟩ := h4 hj
    have hz := szL_at hL
    dsimp only at hz
    exact ⟨_, _, _, A', l.length, l.length, h0, h1, h2, h3, by omega, mk2_start ho⟩⟩
theorem OG.on {w w' : World} {lo hi g n : Nat} (h : OG w lo hi g n) (hb : Below w.heap.size w w') : OG w' lo hi g n :=
  have hg := Nat.lt_of_lt_of_le h.lt h.size
  ⟨h.low, h.lt, Nat.le_trans h.size hb.size, fun j => (hb.frozen (p := ⟨g, j, none⟩) hg).trans (h.free j), fun j hj => by
    obtain ⟨v0, v1, v2, A', m, c, h0, h1, h2, h3, hm, hk⟩ := h.cells j hj
    exact ⟨v0, v1, v2, A', m, c, (hb.cell (p := ⟨g, _, none⟩) hg).trans h0, (hb.cell (p := ⟨g, _, none⟩) hg).trans h1, (hb.cell (p := ⟨g, _, none⟩) hg).trans h2, (hb.cell (p := ⟨g, _, none⟩) hg).trans h3, hm, mk2_on hk hb h.size⟩⟩
theorem OG.setInt {w : World} {lo hi g n : Nat} (h : OG w lo hi g n) (p : Addr) (v : Int) (hp : g + 1 ≤ p.block) : OG (w.setCell p (.int .i64 v)) lo hi g n :=
  ⟨h.low, h.lt, by simpa [World.setCell] using h.size, fun j => (World.frozen?_setCell _ _ _ _).trans (h.free j), fun j hj => by
    obtain ⟨v0, v1, v2, A', m, c, h0, h1, h2, h3, hm, hk⟩ := h.cells j hj
    have ne : ∀ o : Nat, p ≠ (⟨g, o, none⟩ : Addr) := fun o e => by subst e; simp at hp; omega
    have O := fun o => World.cell?_setCell_other w p ⟨g, o, none⟩ (.int .i64 v) (ne o)
    exact ⟨v0, v1, v2, A', m, c, (O _).trans h0, (O _).trans h1, (O _).trans h2, (O _).trans h3, hm, mk2_set hk p v⟩⟩
theorem cell_set {w : World} {q : Addr} {x : Value} (h : w.cell? q = some x) (p : Addr) (v : Value) : ∃ y : Value, (w.setCell p v).cell? q = some y := by
  by_cases e : p = q
  · subst e; exact ⟨v, World.cell?_setCell_same _ _ _ h⟩
  · exact ⟨x, (World.cell?_setCell_other _ _ _ _ e).trans h⟩
theorem OG.put {w : World} {lo hi g n : Nat} (h : OG w lo hi g n) (k i : Nat) (v : Value) (hi3 : i < 3) : OG (w.setCell ⟨g, k * 4 + i, none⟩ v) lo hi g n :=
  ⟨h.low, h.lt, by simpa [World.setCell] using h.size, fun j => (World.frozen?_setCell _ _ _ _).trans (h.free j), fun j hj => by
    obtain ⟨v0, v1, v2, A', m, c, h0, h1, h2, h3, hm, hk⟩ := h.cells j hj
    obtain ⟨y0, e0⟩ := cell_set h0 ⟨g, k * 4 + i, none⟩ v
    obtain ⟨y1, e1⟩ := cell_set h1 ⟨g, k * 4 + i, none⟩ v
    obtain ⟨y2, e2⟩ := cell_set h2 ⟨g, k * 4 + i, none⟩ v
    exact ⟨y0, y1, y2, A', m, c, e0, e1, e2, (World.cell?_setCell_other _ _ _ _ (fun e => by injection e with _ e; omega)).trans h3, hm, mk2_put hk _ v (Nat.lt_succ_self _)⟩⟩
end Go.Proofs.Ytdmnkmdlochogaa
