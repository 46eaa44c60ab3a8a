/-
  How casts and rows of casts read. Conditions: stated at each theorem.
-/
import Derived.Test.YtdmnkmdlochogabOg
import Derived.Test.YtdmnkmdlochogabZp
namespace Go.Proofs.Ytdmnkmdlochogab
open Go.Joins Go.ChangeShapes Go.WideShapes Go.ChangeAt Go.RowKit Go.Deep

/-- The slice value with address A and n elements reads as the casts L; all lies below B. -/
def Casts (w : World) (B : Nat) (A : Option Addr) (n : Nat) (L : List KC) : Prop :=
  L.length = n ∧ ∀ k, k < n → ∃ (b o : Nat) (id tm x y : Int) (l : List (Int × Int)) (A' : Option Addr) (c : Nat), A = some ⟨b, o, none⟩ ∧ b < B ∧ L[k]? = some ⟨id, tm, x, y, l⟩ ∧
    w.cell? ⟨b, o + k * 5, none⟩ = some (.int .i64 id) ∧ w.cell? ⟨b, o + k * 5 + 1, none⟩ = some (.int .i64 tm) ∧ w.cell? ⟨b, o + k * 5 + 2, none⟩ = some (.int .i64 x) ∧ w.cell? ⟨b, o + k * 5 + 3, none⟩ = some (.int .i64 y) ∧ w.cell? ⟨b, o + k * 5 + 4, none⟩ = some (.slice A' l.length c) ∧
    Spots w B A' l.length l ∧ l.length ≤ maxLen
theorem Casts.on {w w' : World} {B B' n : Nat} {A : Option Addr} {L : List KC} (h : Casts w B A n L) (hb : Below B' w w') (hB : B ≤ B') : Casts w' B A n L :=
  ⟨h.1, fun k hk => by
    obtain ⟨b, o, id, tm, x, y, l, A', c, hA, hlt, hL, h0, h1, h2, h3, h4, hs, r⟩ := h.2 k hk
    have hg := Nat.lt_of_lt_of_le hlt hB
    exact ⟨b, o, id, tm, x, y, l, A', c, hA, hlt, hL, (hb.cell (p := ⟨b, _, none⟩) hg).trans h0, (hb.cell (p := ⟨b, _, none⟩) hg).trans h1, (hb.cell (p := ⟨b, _, none⟩) hg).trans h2, (hb.cell (p := ⟨b, _, none⟩) hg).trans h3, (hb.cell (p := ⟨b, _, none⟩) hg).trans h4, hs.on hb hB, r⟩⟩
theorem Casts.up {w : World} {B B' n : Nat} {A : Option Addr} {L : List KC} (h : Casts w B A n L) (hB : B ≤ B') : Casts w B' A n L :=
  ⟨h.1, fun k hk => by
    obtain ⟨b, o, id, tm, x, y, l, A', c, hA, hlt, hL, h0, h1, h2, h3, h4, hs, r⟩ := h.2 k hk
    exact ⟨b, o, id, tm, x, y, l, A', c, hA, Nat.lt_of_lt_of_le hlt hB, hL, h0, h1, h2, h3, h4, ⟨hs.1, fun i hi => by
      obtain ⟨b', o', x', y', hA', hlt', q⟩ := hs.2 i hi
      exact ⟨b', o', x', y', hA', Nat.lt_of_lt_of_le hlt' hB, q⟩⟩, r⟩⟩
theorem casts_at {w W : World} {n : Nat} {A : Option Addr} {L : List KC} (h : Casts w w.heap.size A n L) (hb : Below w.heap.size w W) : Casts W W.heap.size A n L :=
  (h.on hb (Nat.le_refl _)).up hb.size

/-! ### Arguments -/
theorem cellsLayerL : Try.prog.cellsOf 189 = 2 := by kernel_rfl
theorem cellsLayersL : Try.prog.cellsOf 86 = 1 := by kernel_rfl
theorem cellsSpotK : Try.prog.cellsOf 85 = 2 := by kernel_rfl
theorem cellsCastL : Try.prog.cellsOf 88 = 5 := by kernel_rfl
theorem array5 {α : Type} {cs : Array α} (h : cs.size = 5) : ∃ c0 c1 c2 c3 c4, cs = #[c0, c1, c2, c3, c4] := by
  obtain ⟨l⟩ := cs
  match l, h with
  | [c0, c1, c2, c3, c4], _ => exact ⟨c0, c1, c2, c3, c4, rfl⟩
theorem at_someK {α : Type} {l : List α} {i : Nat} (h : i < l.length) : ∃ y, l[i]? = some y := ⟨_, List.getElem?_eq_getElem h⟩
section
variable {H : Type} {enc : TypeId × Value → H} {w : World} {r : Reach} {b0 : Nat}
/-- A slice of layers reads as a list of pairs. -/
theorem layers_cell {n : Nat} {v : Value} {y : DataW H × List MemPlace} (h : DataW.trod enc Try.prog w 0 (fun _ => true) true n 86 [v] = some y) :
    ∃ (A : Option Addr) (n c : Nat), v = .slice A n c ∧ n ≤ maxLen ∧ ∃ l, Spots w w.heap.size A n l := by
  rcases open_slice Try.underlying86 h with ⟨hcs, _⟩ | ⟨a, len, cap, m, n', D, Pl, hcs, _, hl, hm, hmm, _, hx⟩
  · exact ⟨none, 0, 0, by simpa using hcs, by unfold maxLen; omega, [], rfl, fun k hk => absurd hk (by omega)⟩
  · refine ⟨some a, len, cap, by simpa using hcs, by omega, ?_⟩
    simp only [if_true] at hmm
    rw [cellsLayerL] at hx
    have key : ∀ i, i < len → ∃ z : Int × Int, w.cell? (a.add (i * 2)) = some (.int .i64 z.1) ∧ w.cell? ((a.add (i * 2)).add 1) = some (.int .i64 z.2) := fun i hi => by
      obtain ⟨cs', hc, ht⟩ := hx i (by omega)
      obtain ⟨_, hlen, hat⟩ := World.cells?_some hc
      match cs', hlen with
      | [v0, v1], _ =>
        obtain ⟨y0, y1, m', _, _, h0, h1⟩ := trod_struct2 Try.underlying189 ht
        simp only [cells3] at h0 h1
        obtain ⟨x, rfl⟩ : ∃ x : Int, v0 = .int .i64 x := int_cell (n := m') h0
        obtain ⟨y, rfl⟩ : ∃ x : Int, v1 = .int .i64 x := int_cell (n := m') h1
        exact ⟨(x, y), by simpa [Addr.add] using hat 0 (by omega), hat 1 (by omega)⟩
    obtain ⟨f, hfx⟩ := choose_lt (α := Int × Int) key
    refine ⟨(List.range len).map f, by simp, fun k hk => ?_⟩
    obtain ⟨h0, h1⟩ := hfx k hk
    obtain ⟨b, o, spot⟩ := a
    have hspot : spot = none := by simpa [Addr.add] using World.cell?_spot (hfx 0 (by omega)).1
    subst hspot
    rw [add_none] at h0 h1
    rw [add_none] at h1
    exact ⟨b, o, (f k).1, (f k).2, rfl, World.block_lt_of_cell? w _ h0, by simp [hk], h0, h1⟩
theorem spot_cells {base : Nat} {spare : Nat → Bool} {held : Bool} {n : Nat} {v0 v1 : Value} {y : DataW H × List MemPlace} (h : DataW.trod enc Try.prog w base spare held n 85 [v0, v1] = some y) :
    ∃ x y : Int, v0 = .int .i64 x ∧ v1 = .int .i64 y := by
  obtain ⟨y0, y1, m', _, _, h0, h1⟩ := trod_struct2 Try.underlying85 h
  simp only [cells3] at h0 h1
  obtain ⟨x, rfl⟩ : ∃ x : Int, v0 = .int .i64 x := int_cell (n := m') h0
  obtain ⟨y, rfl⟩ : ∃ x : Int, v1 = .int .i64 x := int_cell (n := m') h1
  exact ⟨x, y, rfl, rfl⟩
theorem cast_cells {n : Nat} {v0 v1 v2 v3 v4 : Value} {y : DataW H × List MemPlace} (h : DataW.trod enc Try.prog w 0 (fun _ => true) true n 88 [v0, v1, v2, v3, v4] = some y) :
    ∃ (id tm x y : Int) (A : Option Addr) (n c : Nat), [v0, v1, v2, v3, v4] = [.int .i64 id, .int .i64 tm, .int .i64 x, .int .i64 y, .slice A n c] ∧ n ≤ maxLen ∧ ∃ l, Spots w w.heap.size A n l := by
  obtain ⟨xs, m, _, rfl, hl, hlen, hf⟩ := DataW.trod_struct Try.underlying88 h
  obtain ⟨y0, e0⟩ := at_someK (l := xs) (i := 0) (by rw [hlen]; decide)
  have g0 : DataW.trod enc Try.prog w 0 (fun _ => true) true m 3 (([v0, v1, v2, v3, v4].drop 0).take (Try.prog.cellsOf 3)) = some y0 := (hf 0 _ rfl).trans e0
  obtain ⟨y1, e1⟩ := at_someK (l := xs) (i := 1) (by rw [hlen]; decide)
  have g1 : DataW.trod enc Try.prog w 0 (fun _ => true) true m 3 (([v0, v1, v2, v3, v4].drop 1).take (Try.prog.cellsOf 3)) = some y1 := (hf 1 _ rfl).trans e1
  obtain ⟨y2, e2⟩ := at_someK (l := xs) (i := 2) (by rw [hlen]; decide)
  have g2 : DataW.trod enc Try.prog w 0 (fun _ => true) true m 85 (([v0, v1, v2, v3, v4].drop 2).take (Try.prog.cellsOf 85)) = some y2 := (hf 2 _ rfl).trans e2
  obtain ⟨y3, e3⟩ := at_someK (l := xs) (i := 3) (by rw [hlen]; decide)
  have g3 : DataW.trod enc Try.prog w 0 (fun _ => true) true m 86 (([v0, v1, v2, v3, v4].drop 4).take (Try.prog.cellsOf 86)) = some y3 := (hf 3 _ rfl).trans e3
  simp only [cells3, cellsSpotK, cellsLayersL] at g0 g1 g2 g3
  obtain ⟨x0, rfl⟩ : ∃ x : Int, v0 = .int .i64 x := int_cell (n := m) g0
  obtain ⟨x1, rfl⟩ : ∃ x : Int, v1 = .int .i64 x := int_cell (n := m) g1
  obtain ⟨x2, x3, rfl, rfl⟩ : ∃ x y : Int, v2 = .int .i64 x ∧ v3 = .int .i64 y := spot_cells (n := m) g2
  obtain ⟨A, k, c, rfl, hk, hs⟩ : ∃ (A : Option Addr) (n c : Nat), v4 = .slice A n c ∧ n ≤ maxLen ∧ ∃ l, Spots w w.heap.size A n l := layers_cell (n := m) g3
  exact ⟨x0, x1, x2, x3, A, k, c, rfl, hk, hs⟩
set_option maxRecDepth 100000 in
theorem open_cast {v : Value} {d : DataW H} {p : List MemPlace} (hv : Value.okWide Try.prog w r b0 88 v) (h : DataW.Trod enc Try.prog w 0 (fun _ => true) true 88 v d p) :
    ∃ (id tm x y : Int) (A : Option Addr) (n c : Nat), v = .agg #[.int .i64 id, .int .i64 tm, .int .i64 x, .int .i64 y, .slice A n c] ∧ n ≤ maxLen ∧ ∃ l, Spots w w.heap.size A n l := by
  obtain ⟨cs, rfl, hsz⟩ := okWide_struct Try.underlying88 hv
  obtain ⟨c0, c1, c2, c3, c4, rfl⟩ := array5 (hsz.trans cellsCastL)
  obtain ⟨fuel, hf⟩ := h
  obtain ⟨id, tm, x, y, A, n, c, he, hn, hs⟩ := cast_cells hf
  simp only [List.cons.injEq, and_true] at he
  obtain ⟨rfl, rfl, rfl, rfl, rfl⟩ := he
  exact ⟨id, tm, x, y, A, n, c, rfl, hn, hs⟩
end
end Go.Proofs.Ytdmnkmdlochogab
