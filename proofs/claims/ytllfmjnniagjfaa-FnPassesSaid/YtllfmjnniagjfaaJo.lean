/-
  Passs: a row of them, how the arguments of the laws on lines read. Conditions: stated at each theorem.
-/
import Derived.Test.YtllfmjnniagjfaaOg
import Derived.Test.YtllfmjnniagjfaaJp
namespace Go.Proofs.Ytllfmjnniagjfaa
open Go.Joins Go.ChangeShapes Go.WideShapes Go.ChangeAt Go.RowKit Go.Deep

/-- From its place o on block b holds the value v. -/
def At5J (w : World) (b o : Nat) (v : PS) : Prop := w.cell? ⟨b, o, none⟩ = some (.int .i64 v.ln) ∧ w.cell? ⟨b, o + 1, none⟩ = some (.int .i64 v.bg) ∧ w.cell? ⟨b, o + 2, none⟩ = some (.int .i64 v.en) ∧ w.cell? ⟨b, o + 3, none⟩ = some (.int .i64 v.pi) ∧ w.cell? ⟨b, o + 4, none⟩ = some (.int .i64 v.bd) ∧ w.cell? ⟨b, o + 5, none⟩ = some (.int .i64 v.co)
theorem At5J.on {w w' : World} {B b o : Nat} {v : PS} (h : At5J w b o v) (hb : Below B w w') (hB : b < B) : At5J w' b o v := by
  obtain ⟨h0, h1, h2, h3, h4, h5⟩ := h
  exact ⟨(hb.cell (p := ⟨b, _, none⟩) hB).trans h0, (hb.cell (p := ⟨b, _, none⟩) hB).trans h1, (hb.cell (p := ⟨b, _, none⟩) hB).trans h2, (hb.cell (p := ⟨b, _, none⟩) hB).trans h3, (hb.cell (p := ⟨b, _, none⟩) hB).trans h4, (hb.cell (p := ⟨b, _, none⟩) hB).trans h5⟩
/-- The slice value with address A and n elements reads as the lines L; its block lies below B. -/
def SdsJ (w : World) (B : Nat) (A : Option Addr) (n : Nat) (L : List PS) : Prop :=
  L.length = n ∧ ∀ k, k < n → ∃ (b o : Nat) (v : PS), A = some ⟨b, o, none⟩ ∧ b < B ∧ L[k]? = some v ∧ At5J w b (o + k * 6) v
theorem SdsJ.on {w w' : World} {B B' n : Nat} {A : Option Addr} {L : List PS} (h : SdsJ w B A n L) (hb : Below B' w w') (hB : B ≤ B') : SdsJ w' B A n L :=
  ⟨h.1, fun k hk => by
    obtain ⟨b, o, v, hA, hlt, hL, h5⟩ := h.2 k hk
    exact ⟨b, o, v, hA, hlt, hL, h5.on hb (Nat.lt_of_lt_of_le hlt hB)⟩⟩
theorem SdsJ.up {w : World} {B B' n : Nat} {A : Option Addr} {L : List PS} (h : SdsJ w B A n L) (hB : B ≤ B') : SdsJ w B' A n L :=
  ⟨h.1, fun k hk => by
    obtain ⟨b, o, v, hA, hlt, r⟩ := h.2 k hk
    exact ⟨b, o, v, hA, Nat.lt_of_lt_of_le hlt hB, r⟩⟩
theorem sds_atJ {w W : World} {n : Nat} {A : Option Addr} {L : List PS} (h : SdsJ w w.heap.size A n L) (hb : Below w.heap.size w W) : SdsJ W W.heap.size A n L :=
  (h.on hb (Nat.le_refl _)).up hb.size
theorem SdsJ.take {w : World} {B n : Nat} {A : Option Addr} {L : List PS} (h : SdsJ w B A n L) {k : Nat} (hk : k ≤ n) : SdsJ w B A k (L.take k) :=
  ⟨by have := h.1; simp; omega, fun j hj => by
    obtain ⟨b, o, v, hA, hlt, hL, r⟩ := h.2 j (by omega)
    exact ⟨b, o, v, hA, hlt, by rw [List.getElem?_take, if_pos hj]; exact hL, r⟩⟩
theorem sds_nilJ (w : World) (B : Nat) (A : Option Addr) : SdsJ w B A 0 [] := ⟨rfl, fun k hk => absurd hk (by omega)⟩
/-! ### An argument -/
theorem cellsSoundLJ : Try.prog.cellsOf 57 = 6 := by kernel_rfl
theorem array5sJ {α : Type} {cs : Array α} (h : cs.size = 6) : ∃ c0 c1 c2 c3 c4 c5, cs = #[c0, c1, c2, c3, c4, c5] := by
  obtain ⟨l⟩ := cs
  match l, h with
  | [c0, c1, c2, c3, c4, c5], _ => exact ⟨c0, c1, c2, c3, c4, c5, rfl⟩
theorem at_someSJ {α : Type} {l : List α} {i : Nat} (h : i < l.length) : ∃ y, l[i]? = some y := ⟨_, List.getElem?_eq_getElem h⟩
section
variable {H : Type} {enc : TypeId × Value → H} {w : World} {base : Nat} {spare : Nat → Bool} {held : Bool} {r : Reach} {b0 : Nat}
theorem sound_cellsJ {n : Nat} {v0 v1 v2 v3 v4 v5 : Value} {y : DataW H × List MemPlace} (h : DataW.trod enc Try.prog w base spare held n 57 [v0, v1, v2, v3, v4, v5] = some y) :
    ∃ v : PS, [v0, v1, v2, v3, v4, v5] = [.int .i64 v.ln, .int .i64 v.bg, .int .i64 v.en, .int .i64 v.pi, .int .i64 v.bd, .int .i64 v.co] := by
  obtain ⟨xs, m, _, rfl, hl, hlen, hf⟩ := DataW.trod_struct Try.underlying57 h
  obtain ⟨y0, e0⟩ := at_someSJ (l := xs) (i := 0) (by rw [hlen]; decide)
  have g0 : DataW.trod enc Try.prog w base spare held m 3 (([v0, v1, v2, v3, v4, v5].drop 0).take (Try.prog.cellsOf 3)) = some y0 := (hf 0 _ rfl).trans e0
  obtain ⟨y1, e1⟩ := at_someSJ (l := xs) (i := 1) (by rw [hlen]; decide)
  have g1 : DataW.trod enc Try.prog w base spare held m 3 (([v0, v1, v2, v3, v4, v5].drop 1).take (Try.prog.cellsOf 3)) = some y1 := (hf 1 _ rfl).trans e1
  obtain ⟨y2, e2⟩ := at_someSJ (l := xs) (i := 2) (by rw [hlen]; decide)
  have g2 : DataW.trod enc Try.prog w base spare held m 3 (([v0, v1, v2, v3, v4, v5].drop 2).take (Try.prog.cellsOf 3)) = some y2 := (hf 2 _ rfl).trans e2
  obtain ⟨y3, e3⟩ := at_someSJ (l := xs) (i := 3) (by rw [hlen]; decide)
  have g3 : DataW.trod enc Try.prog w base spare held m 3 (([v0, v1, v2, v3, v4, v5].drop 3).take (Try.prog.cellsOf 3)) = some y3 := (hf 3 _ rfl).trans e3
  obtain ⟨y4, e4⟩ := at_someSJ (l := xs) (i := 4) (by rw [hlen]; decide)
  obtain ⟨y5, e5⟩ := at_someSJ (l := xs) (i := 5) (by rw [hlen]; decide)
  have g4 : DataW.trod enc Try.prog w base spare held m 3 (([v0, v1, v2, v3, v4, v5].drop 4).take (Try.prog.cellsOf 3)) = some y4 := (hf 4 _ rfl).trans e4
  have g5 : DataW.trod enc Try.prog w base spare held m 3 (([v0, v1, v2, v3, v4, v5].drop 5).take (Try.prog.cellsOf 3)) = some y5 := (hf 5 _ rfl).trans e5
  simp only [cells3] at g0 g1 g2 g3 g4 g5
  obtain ⟨x0, rfl⟩ : ∃ x : Int, v0 = .int .i64 x := int_cell (n := m) g0
  obtain ⟨x1, rfl⟩ : ∃ x : Int, v1 = .int .i64 x := int_cell (n := m) g1
  obtain ⟨x2, rfl⟩ : ∃ x : Int, v2 = .int .i64 x := int_cell (n := m) g2
  obtain ⟨x3, rfl⟩ : ∃ x : Int, v3 = .int .i64 x := int_cell (n := m) g3
  obtain ⟨x4, rfl⟩ : ∃ x : Int, v4 = .int .i64 x := int_cell (n := m) g4
  obtain ⟨x5, rfl⟩ : ∃ x : Int, v5 = .int .i64 x := int_cell (n := m) g5
  exact ⟨⟨x0, x1, x2, x3, x4, x5⟩, rfl⟩
set_option maxRecDepth 100000 in
theorem open_lineJ {v : Value} {d : DataW H} {p : List MemPlace} (hv : Value.okWide Try.prog w r b0 57 v) (h : DataW.Trod enc Try.prog w base spare held 57 v d p) :
    ∃ c : PS, v = .agg #[.int .i64 c.ln, .int .i64 c.bg, .int .i64 c.en, .int .i64 c.pi, .int .i64 c.bd, .int .i64 c.co] := by
  obtain ⟨cs, rfl, hsz⟩ := okWide_struct Try.underlying57 hv
  obtain ⟨c0, c1, c2, c3, c4, c5, rfl⟩ := array5sJ (hsz.trans cellsSoundLJ)
  obtain ⟨fuel, hf⟩ := h
  obtain ⟨c, he⟩ := sound_cellsJ hf
  simp only [List.cons.injEq, and_true] at he
  obtain ⟨rfl, rfl, rfl, rfl, rfl, rfl⟩ := he
  exact ⟨c, rfl⟩
end
section
variable {H : Type} {enc : TypeId × Value → H} {w : World} {base : Nat} {spare : Nat → Bool} {held : Bool} {r : Reach} {b0 : Nat}
set_option maxRecDepth 100000 in
theorem open_linesJ {A : Option Addr} {n c : Nat} {d : DataW H} {p : List MemPlace} (h : DataW.Trod enc Try.prog w 0 (fun _ => true) true 60 (.slice A n c) d p) :
    n ≤ maxLen ∧ ∃ L, SdsJ w w.heap.size A n L := by
  obtain ⟨fuel, hf⟩ := h
  rcases open_slice Try.underlying60 hf with ⟨hcs, _⟩ | ⟨a, len, cap, m, n', D, Pl, hcs, _, hl, hm, hmm, _, hx⟩
  · simp [Value.cells] at hcs
    obtain ⟨rfl, rfl, rfl⟩ := hcs
    exact ⟨by unfold maxLen; omega, [], rfl, fun k hk => absurd hk (by omega)⟩
  · simp [Value.cells] at hcs
    obtain ⟨rfl, rfl, rfl⟩ := hcs
    simp only [if_true] at hmm
    rw [cellsSoundLJ] at hx
    have key : ∀ i, i < n → ∃ z : PS, ∀ j u, ([.int .i64 z.ln, .int .i64 z.bg, .int .i64 z.en, .int .i64 z.pi, .int .i64 z.bd, .int .i64 z.co] : List Value)[j]? = some u → w.cell? ((a.add (i * 6)).add j) = some u := fun i hi => by
      obtain ⟨cs', hc, ht⟩ := hx i (by omega)
      obtain ⟨_, hlen, hat⟩ := World.cells?_some hc
      match cs', hlen with
      | [v0, v1, v2, v3, v4, v5], _ =>
        obtain ⟨z, he⟩ := sound_cellsJ ht
        refine ⟨z, fun j u hu => ?_⟩
        rw [← he] at hu
        obtain ⟨hj, hu'⟩ := List.getElem?_eq_some_iff.1 hu
        rw [← hu']
        exact (hat j hj).trans (List.getElem?_eq_getElem hj)
    obtain ⟨b, o, spot⟩ := a
    rcases Nat.eq_zero_or_pos n with h0 | hpos
    · subst h0
      exact ⟨by omega, [], rfl, fun k hk => absurd hk (by omega)⟩
    have hspot : spot = none := by
      obtain ⟨z, hz⟩ := key 0 hpos
      have := World.cell?_spot (hz 0 _ rfl)
      simpa [Addr.add] using this
    subst hspot
    obtain ⟨f, hfx⟩ := choose_lt (α := PS) key
    refine ⟨by omega, (List.range n).map f, by simp, fun k hk => ?_⟩
    have hz := hfx k hk
    have hat : ∀ j u, ([.int .i64 (f k).ln, .int .i64 (f k).bg, .int .i64 (f k).en, .int .i64 (f k).pi, .int .i64 (f k).bd, .int .i64 (f k).co] : List Value)[j]? = some u → w.cell? ⟨b, o + k * 6 + j, none⟩ = some u := fun j u hu => by
      have := hz j u hu
      rwa [add_none, add_none] at this
    exact ⟨b, o, f k, rfl, World.block_lt_of_cell? w _ (hat 0 _ rfl), by simp [hk], hat 0 _ rfl, hat 1 _ rfl, hat 2 _ rfl, hat 3 _ rfl, hat 4 _ rfl, hat 5 _ rfl⟩
end
end Go.Proofs.Ytllfmjnniagjfaa
