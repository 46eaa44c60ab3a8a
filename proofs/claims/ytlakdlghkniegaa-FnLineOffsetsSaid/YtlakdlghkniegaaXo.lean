/-
  Crossings: a row of them, how the arguments of the laws on lines read. Conditions: stated at each theorem.
-/
import Derived.Test.YtlakdlghkniegaaOg
import Derived.Test.YtlakdlghkniegaaKp
namespace Go.Proofs.Ytlakdlghkniegaa
open Go.Joins Go.ChangeShapes Go.WideShapes Go.ChangeAt Go.RowKit Go.Deep

/-- From its place o on block b holds the value v. -/
def At5X (w : World) (b o : Nat) (v : XD) : Prop := w.cell? ⟨b, o, none⟩ = some (.int .i64 v.ln) ∧ w.cell? ⟨b, o + 1, none⟩ = some (.int .i64 v.cr) ∧ w.cell? ⟨b, o + 2, none⟩ = some (.int .i64 v.mn) ∧ w.cell? ⟨b, o + 3, none⟩ = some (.int .i64 v.ck)
theorem At5X.on {w w' : World} {B b o : Nat} {v : XD} (h : At5X w b o v) (hb : Below B w w') (hB : b < B) : At5X w' b o v := by
  obtain ⟨h0, h1, h2, h3⟩ := h
  exact ⟨(hb.cell (p := ⟨b, _, none⟩) hB).trans h0, (hb.cell (p := ⟨b, _, none⟩) hB).trans h1, (hb.cell (p := ⟨b, _, none⟩) hB).trans h2, (hb.cell (p := ⟨b, _, none⟩) hB).trans h3⟩
/-- The slice value with address A and n elements reads as the lines L; its block lies below B. -/
def SdsX (w : World) (B : Nat) (A : Option Addr) (n : Nat) (L : List XD) : Prop :=
  L.length = n ∧ ∀ k, k < n → ∃ (b o : Nat) (v : XD), A = some ⟨b, o, none⟩ ∧ b < B ∧ L[k]? = some v ∧ At5X w b (o + k * 4) v
theorem SdsX.on {w w' : World} {B B' n : Nat} {A : Option Addr} {L : List XD} (h : SdsX w B A n L) (hb : Below B' w w') (hB : B ≤ B') : SdsX w' B A n L :=
  ⟨h.1, fun k hk => by
    obtain ⟨b, o, v, hA, hlt, hL, h5⟩ := h.2 k hk
    exact ⟨b, o, v, hA, hlt, hL, h5.on hb (Nat.lt_of_lt_of_le hlt hB)⟩⟩
theorem SdsX.up {w : World} {B B' n : Nat} {A : Option Addr} {L : List XD} (h : SdsX w B A n L) (hB : B ≤ B') : SdsX w B' A n L :=
  ⟨h.1, fun k hk => by
    obtain ⟨b, o, v, hA, hlt, r⟩ := h.2 k hk
    exact ⟨b, o, v, hA, Nat.lt_of_lt_of_le hlt hB, r⟩⟩
theorem sds_atX {w W : World} {n : Nat} {A : Option Addr} {L : List XD} (h : SdsX w w.heap.size A n L) (hb : Below w.heap.size w W) : SdsX W W.heap.size A n L :=
  (h.on hb (Nat.le_refl _)).up hb.size
theorem SdsX.take {w : World} {B n : Nat} {A : Option Addr} {L : List XD} (h : SdsX w B A n L) {k : Nat} (hk : k ≤ n) : SdsX w B A k (L.take k) :=
  ⟨by have := h.1; simp; omega, fun j hj => by
    obtain ⟨b, o, v, hA, hlt, hL, r⟩ := h.2 j (by omega)
    exact ⟨b, o, v, hA, hlt, by rw [List.getElem?_take, if_pos hj]; exact hL, r⟩⟩
theorem sds_nilX (w : World) (B : Nat) (A : Option Addr) : SdsX w B A 0 [] := ⟨rfl, fun k hk => absurd hk (by omega)⟩
/-! ### An argument -/
theorem cellsSoundLX : Try.prog.cellsOf 91 = 4 := by kernel_rfl
theorem array5sX {α : Type} {cs : Array α} (h : cs.size = 4) : ∃ c0 c1 c2 c3, cs = #[c0, c1, c2, c3] := by
  obtain ⟨l⟩ := cs
  match l, h with
  | [c0, c1, c2, c3], _ => exact ⟨c0, c1, c2, c3, rfl⟩
theorem at_someSX {α : Type} {l : List α} {i : Nat} (h : i < l.length) : ∃ y, l[i]? = some y := ⟨_, List.getElem?_eq_getElem h⟩
section
variable {H : Type} {enc : TypeId × Value → H} {w : World} {base : Nat} {spare : Nat → Bool} {held : Bool} {r : Reach} {b0 : Nat}
theorem sound_cellsX {n : Nat} {v0 v1 v2 v3 : Value} {y : DataW H × List MemPlace} (h : DataW.trod enc Try.prog w base spare held n 91 [v0, v1, v2, v3] = some y) :
    ∃ v : XD, [v0, v1, v2, v3] = [.int .i64 v.ln, .int .i64 v.cr, .int .i64 v.mn, .int .i64 v.ck] := by
  obtain ⟨xs, m, _, rfl, hl, hlen, hf⟩ := DataW.trod_struct Try.underlying91 h
  obtain ⟨y0, e0⟩ := at_someSX (l := xs) (i := 0) (by rw [hlen]; decide)
  have g0 : DataW.trod enc Try.prog w base spare held m 3 (([v0, v1, v2, v3].drop 0).take (Try.prog.cellsOf 3)) = some y0 := (hf 0 _ rfl).trans e0
  obtain ⟨y1, e1⟩ := at_someSX (l := xs) (i := 1) (by rw [hlen]; decide)
  have g1 : DataW.trod enc Try.prog w base spare held m 3 (([v0, v1, v2, v3].drop 1).take (Try.prog.cellsOf 3)) = some y1 := (hf 1 _ rfl).trans e1
  obtain ⟨y2, e2⟩ := at_someSX (l := xs) (i := 2) (by rw [hlen]; decide)
  have g2 : DataW.trod enc Try.prog w base spare held m 3 (([v0, v1, v2, v3].drop 2).take (Try.prog.cellsOf 3)) = some y2 := (hf 2 _ rfl).trans e2
  obtain ⟨y3, e3⟩ := at_someSX (l := xs) (i := 3) (by rw [hlen]; decide)
  have g3 : DataW.trod enc Try.prog w base spare held m 3 (([v0, v1, v2, v3].drop 3).take (Try.prog.cellsOf 3)) = some y3 := (hf 3 _ rfl).trans e3
  simp only [cells3] at g0 g1 g2 g3
  obtain ⟨x0, rfl⟩ : ∃ x : Int, v0 = .int .i64 x := int_cell (n := m) g0
  obtain ⟨x1, rfl⟩ : ∃ x : Int, v1 = .int .i64 x := int_cell (n := m) g1
  obtain ⟨x2, rfl⟩ : ∃ x : Int, v2 = .int .i64 x := int_cell (n := m) g2
  obtain ⟨x3, rfl⟩ : ∃ x : Int, v3 = .int .i64 x := int_cell (n := m) g3
  exact ⟨⟨x0, x1, x2, x3⟩, rfl⟩
set_option maxRecDepth 100000 in
theorem open_lineX {v : Value} {d : DataW H} {p : List MemPlace} (hv : Value.okWide Try.prog w r b0 91 v) (h : DataW.Trod enc Try.prog w base spare held 91 v d p) :
    ∃ c : XD, v = .agg #[.int .i64 c.ln, .int .i64 c.cr, .int .i64 c.mn, .int .i64 c.ck] := by
  obtain ⟨cs, rfl, hsz⟩ := okWide_struct Try.underlying91 hv
  obtain ⟨c0, c1, c2, c3, rfl⟩ := array5sX (hsz.trans cellsSoundLX)
  obtain ⟨fuel, hf⟩ := h
  obtain ⟨c, he⟩ := sound_cellsX hf
  simp only [List.cons.injEq, and_true] at he
  obtain ⟨rfl, rfl, rfl, rfl⟩ := he
  exact ⟨c, rfl⟩
end
section
variable {H : Type} {enc : TypeId × Value → H} {w : World} {base : Nat} {spare : Nat → Bool} {held : Bool} {r : Reach} {b0 : Nat}
set_option maxRecDepth 100000 in
theorem open_linesX {A : Option Addr} {n c : Nat} {d : DataW H} {p : List MemPlace} (h : DataW.Trod enc Try.prog w 0 (fun _ => true) true 51 (.slice A n c) d p) :
    n ≤ maxLen ∧ ∃ L, SdsX w w.heap.size A n L := by
  obtain ⟨fuel, hf⟩ := h
  rcases open_slice Try.underlying51 hf with ⟨hcs, _⟩ | ⟨a, len, cap, m, n', D, Pl, hcs, _, hl, hm, hmm, _, hx⟩
  · simp [Value.cells] at hcs
    obtain ⟨rfl, rfl, rfl⟩ := hcs
    exact ⟨by unfold maxLen; omega, [], rfl, fun k hk => absurd hk (by omega)⟩
  · simp [Value.cells] at hcs
    obtain ⟨rfl, rfl, rfl⟩ := hcs
    simp only [if_true] at hmm
    rw [cellsSoundLX] at hx
    have key : ∀ i, i < n → ∃ z : XD, ∀ j u, ([.int .i64 z.ln, .int .i64 z.cr, .int .i64 z.mn, .int .i64 z.ck] : List Value)[j]? = some u → w.cell? ((a.add (i * 4)).add j) = some u := fun i hi => by
      obtain ⟨cs', hc, ht⟩ := hx i (by omega)
      obtain ⟨_, hlen, hat⟩ := World.cells?_some hc
      match cs', hlen with
      | [v0, v1, v2, v3], _ =>
        obtain ⟨z, he⟩ := sound_cellsX ht
        refine ⟨z, fun j u hu => ?_⟩
        rw [← he] at hu
        obtain ⟨hj, hu'⟩ := List.getElem?_eq_some_iff.1 hu
        rw [← hu']
        exact (hat j hj).trans (List.getElem?_eq_getElem hj)
    obtain ⟨b, o, spot⟩ := a
    rcases Nat.eq_zero_or_pos n with h0 | hpos
    · subst h0
      exact ⟨by omega, [], rfl, fun k hk => absurd hk (by omega)⟩
    have hspot : spot = none := by
      obtain ⟨z, hz⟩ := key 0 hpos
      have := World.cell?_spot (hz 0 _ rfl)
      simpa [Addr.add] using this
    subst hspot
    obtain ⟨f, hfx⟩ := choose_lt (α := XD) key
    refine ⟨by omega, (List.range n).map f, by simp, fun k hk => ?_⟩
    have hz := hfx k hk
    have hat : ∀ j u, ([.int .i64 (f k).ln, .int .i64 (f k).cr, .int .i64 (f k).mn, .int .i64 (f k).ck] : List Value)[j]? = some u → w.cell? ⟨b, o + k * 4 + j, none⟩ = some u := fun j u hu => by
      have := hz j u hu
      rwa [add_none, add_none] at this
    exact ⟨b, o, f k, rfl, World.block_lt_of_cell? w _ (hat 0 _ rfl), by simp [hk], hat 0 _ rfl, hat 1 _ rfl, hat 2 _ rfl, hat 3 _ rfl⟩
end
end Go.Proofs.Ytlakdlghkniegaa
