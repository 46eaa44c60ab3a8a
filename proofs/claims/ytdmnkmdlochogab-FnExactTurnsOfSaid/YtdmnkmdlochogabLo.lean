/-
  SurveyLines: a row of them, how the arguments of the laws on lines read. Conditions: stated at each theorem.
-/
import Derived.Test.YtdmnkmdlochogabOg
import Derived.Test.YtdmnkmdlochogabLp
namespace Go.Proofs.Ytdmnkmdlochogab
open Go.Joins Go.ChangeShapes Go.WideShapes Go.ChangeAt Go.RowKit Go.Deep

/-- From its place o on block b holds the line v. -/
def At5N (w : World) (b o : Nat) (v : LN) : Prop := w.cell? ⟨b, o, none⟩ = some (.int .i64 v.id) ∧ w.cell? ⟨b, o + 1, none⟩ = some (.int .i64 v.y) ∧ w.cell? ⟨b, o + 2, none⟩ = some (.int .i64 v.fr) ∧ w.cell? ⟨b, o + 3, none⟩ = some (.int .i64 v.to) ∧ w.cell? ⟨b, o + 4, none⟩ = some (.int .i64 v.sw)
theorem At5N.on {w w' : World} {B b o : Nat} {v : LN} (h : At5N w b o v) (hb : Below B w w') (hB : b < B) : At5N w' b o v := by
  obtain ⟨h0, h1, h2, h3, h4⟩ := h
  exact ⟨(hb.cell (p := ⟨b, _, none⟩) hB).trans h0, (hb.cell (p := ⟨b, _, none⟩) hB).trans h1, (hb.cell (p := ⟨b, _, none⟩) hB).trans h2, (hb.cell (p := ⟨b, _, none⟩) hB).trans h3, (hb.cell (p := ⟨b, _, none⟩) hB).trans h4⟩
/-- The slice value with address A and n elements reads as the lines L; its block lies below B. -/
def SdsN (w : World) (B : Nat) (A : Option Addr) (n : Nat) (L : List LN) : Prop :=
  L.length = n ∧ ∀ k, k < n → ∃ (b o : Nat) (v : LN), A = some ⟨b, o, none⟩ ∧ b < B ∧ L[k]? = some v ∧ At5N w b (o + k * 5) v
theorem SdsN.on {w w' : World} {B B' n : Nat} {A : Option Addr} {L : List LN} (h : SdsN w B A n L) (hb : Below B' w w') (hB : B ≤ B') : SdsN w' B A n L :=
  ⟨h.1, fun k hk => by
    obtain ⟨b, o, v, hA, hlt, hL, h5⟩ := h.2 k hk
    exact ⟨b, o, v, hA, hlt, hL, h5.on hb (Nat.lt_of_lt_of_le hlt hB)⟩⟩
theorem SdsN.up {w : World} {B B' n : Nat} {A : Option Addr} {L : List LN} (h : SdsN w B A n L) (hB : B ≤ B') : SdsN w B' A n L :=
  ⟨h.1, fun k hk => by
    obtain ⟨b, o, v, hA, hlt, r⟩ := h.2 k hk
    exact ⟨b, o, v, hA, Nat.lt_of_lt_of_le hlt hB, r⟩⟩
theorem sds_atN {w W : World} {n : Nat} {A : Option Addr} {L : List LN} (h : SdsN w w.heap.size A n L) (hb : Below w.heap.size w W) : SdsN W W.heap.size A n L :=
  (h.on hb (Nat.le_refl _)).up hb.size
theorem SdsN.take {w : World} {B n : Nat} {A : Option Addr} {L : List LN} (h : SdsN w B A n L) {k : Nat} (hk : k ≤ n) : SdsN w B A k (L.take k) :=
  ⟨by have := h.1; simp; omega, fun j hj => by
    obtain ⟨b, o, v, hA, hlt, hL, r⟩ := h.2 j (by omega)
    exact ⟨b, o, v, hA, hlt, by rw [List.getElem?_take, if_pos hj]; exact hL, r⟩⟩
theorem sds_nilN (w : World) (B : Nat) (A : Option Addr) : SdsN w B A 0 [] := ⟨rfl, fun k hk => absurd hk (by omega)⟩
/-! ### An argument -/
theorem cellsSoundLN : Try.prog.cellsOf 161 = 5 := by kernel_rfl
theorem array5sN {α : Type} {cs : Array α} (h : cs.size = 5) : ∃ c0 c1 c2 c3 c4, cs = #[c0, c1, c2, c3, c4] := by
  obtain ⟨l⟩ := cs
  match l, h with
  | [c0, c1, c2, c3, c4], _ => exact ⟨c0, c1, c2, c3, c4, rfl⟩
theorem at_someSN {α : Type} {l : List α} {i : Nat} (h : i < l.length) : ∃ y, l[i]? = some y := ⟨_, List.getElem?_eq_getElem h⟩
section
variable {H : Type} {enc : TypeId × Value → H} {w : World} {base : Nat} {spare : Nat → Bool} {held : Bool} {r : Reach} {b0 : Nat}
theorem sound_cellsN {n : Nat} {v0 v1 v2 v3 v4 : Value} {y : DataW H × List MemPlace} (h : DataW.trod enc Try.prog w base spare held n 161 [v0, v1, v2, v3, v4] = some y) :
    ∃ v : LN, [v0, v1, v2, v3, v4] = [.int .i64 v.id, .int .i64 v.y, .int .i64 v.fr, .int .i64 v.to, .int .i64 v.sw] := by
  obtain ⟨xs, m, _, rfl, hl, hlen, hf⟩ := DataW.trod_struct Try.underlying161 h
  obtain ⟨y0, e0⟩ := at_someSN (l := xs) (i := 0) (by rw [hlen]; decide)
  have g0 : DataW.trod enc Try.prog w base spare held m 3 (([v0, v1, v2, v3, v4].drop 0).take (Try.prog.cellsOf 3)) = some y0 := (hf 0 _ rfl).trans e0
  obtain ⟨y1, e1⟩ := at_someSN (l := xs) (i := 1) (by rw [hlen]; decide)
  have g1 : DataW.trod enc Try.prog w base spare held m 3 (([v0, v1, v2, v3, v4].drop 1).take (Try.prog.cellsOf 3)) = some y1 := (hf 1 _ rfl).trans e1
  obtain ⟨y2, e2⟩ := at_someSN (l := xs) (i := 2) (by rw [hlen]; decide)
  have g2 : DataW.trod enc Try.prog w base spare held m 3 (([v0, v1, v2, v3, v4].drop 2).take (Try.prog.cellsOf 3)) = some y2 := (hf 2 _ rfl).trans e2
  obtain ⟨y3, e3⟩ := at_someSN (l := xs) (i := 3) (by rw [hlen]; decide)
  have g3 : DataW.trod enc Try.prog w base spare held m 3 (([v0, v1, v2, v3, v4].drop 3).take (Try.prog.cellsOf 3)) = some y3 := (hf 3 _ rfl).trans e3
  obtain ⟨y4, e4⟩ := at_someSN (l := xs) (i := 4) (by rw [hlen]; decide)
  have g4 : DataW.trod enc Try.prog w base spare held m 3 (([v0, v1, v2, v3, v4].drop 4).take (Try.prog.cellsOf 3)) = some y4 := (hf 4 _ rfl).trans e4
  simp only [cells3] at g0 g1 g2 g3 g4
  obtain ⟨x0, rfl⟩ : ∃ x : Int, v0 = .int .i64 x := int_cell (n := m) g0
  obtain ⟨x1, rfl⟩ : ∃ x : Int, v1 = .int .i64 x := int_cell (n := m) g1
  obtain ⟨x2, rfl⟩ : ∃ x : Int, v2 = .int .i64 x := int_cell (n := m) g2
  obtain ⟨x3, rfl⟩ : ∃ x : Int, v3 = .int .i64 x := int_cell (n := m) g3
  obtain ⟨x4, rfl⟩ : ∃ x : Int, v4 = .int .i64 x := int_cell (n := m) g4
  exact ⟨⟨x0, x1, x2, x3, x4⟩, rfl⟩
set_option maxRecDepth 100000 in
theorem open_lineN {v : Value} {d : DataW H} {p : List MemPlace} (hv : Value.okWide Try.prog w r b0 161 v) (h : DataW.Trod enc Try.prog w base spare held 161 v d p) :
    ∃ c : LN, v = .agg #[.int .i64 c.id, .int .i64 c.y, .int .i64 c.fr, .int .i64 c.to, .int .i64 c.sw] := by
  obtain ⟨cs, rfl, hsz⟩ := okWide_struct Try.underlying161 hv
  obtain ⟨c0, c1, c2, c3, c4, rfl⟩ := array5sN (hsz.trans cellsSoundLN)
  obtain ⟨fuel, hf⟩ := h
  obtain ⟨c, he⟩ := sound_cellsN hf
  simp only [List.cons.injEq, and_true] at he
  obtain ⟨rfl, rfl, rfl, rfl, rfl⟩ := he
  exact ⟨c, rfl⟩
end
section
variable {H : Type} {enc : TypeId × Value → H} {w : World} {base : Nat} {spare : Nat → Bool} {held : Bool} {r : Reach} {b0 : Nat}
set_option maxRecDepth 100000 in
theorem open_linesN {A : Option Addr} {n c : Nat} {d : DataW H} {p : List MemPlace} (h : DataW.Trod enc Try.prog w 0 (fun _ => true) true 93 (.slice A n c) d p) :
    n ≤ maxLen ∧ ∃ L, SdsN w w.heap.size A n L := by
  obtain ⟨fuel, hf⟩ := h
  rcases open_slice Try.underlying93 hf with ⟨hcs, _⟩ | ⟨a, len, cap, m, n', D, Pl, hcs, _, hl, hm, hmm, _, hx⟩
  · simp [Value.cells] at hcs
    obtain ⟨rfl, rfl, rfl⟩ := hcs
    exact ⟨by unfold maxLen; omega, [], rfl, fun k hk => absurd hk (by omega)⟩
  · simp [Value.cells] at hcs
    obtain ⟨rfl, rfl, rfl⟩ := hcs
    simp only [if_true] at hmm
    rw [cellsSoundLN] at hx
    have key : ∀ i, i < n → ∃ z : LN, ∀ j u, ([.int .i64 z.id, .int .i64 z.y, .int .i64 z.fr, .int .i64 z.to, .int .i64 z.sw] : List Value)[j]? = some u → w.cell? ((a.add (i * 5)).add j) = some u := fun i hi => by
      obtain ⟨cs', hc, ht⟩ := hx i (by omega)
      obtain ⟨_, hlen, hat⟩ := World.cells?_some hc
      match cs', hlen with
      | [v0, v1, v2, v3, v4], _ =>
        obtain ⟨z, he⟩ := sound_cellsN ht
        refine ⟨z, fun j u hu => ?_⟩
        rw [← he] at hu
        obtain ⟨hj, hu'⟩ := List.getElem?_eq_some_iff.1 hu
        rw [← hu']
        exact (hat j hj).trans (List.getElem?_eq_getElem hj)
    obtain ⟨b, o, spot⟩ := a
    rcases Nat.eq_zero_or_pos n with h0 | hpos
    · subst h0
      exact ⟨by omega, [], rfl, fun k hk => absurd hk (by omega)⟩
    have hspot : spot = none := by
      obtain ⟨z, hz⟩ := key 0 hpos
      have := World.cell?_spot (hz 0 _ rfl)
      simpa [Addr.add] using this
    subst hspot
    obtain ⟨f, hfx⟩ := choose_lt (α := LN) key
    refine ⟨by omega, (List.range n).map f, by simp, fun k hk => ?_⟩
    have hz := hfx k hk
    have hat : ∀ j u, ([.int .i64 (f k).id, .int .i64 (f k).y, .int .i64 (f k).fr, .int .i64 (f k).to, .int .i64 (f k).sw] : List Value)[j]? = some u → w.cell? ⟨b, o + k * 5 + j, none⟩ = some u := fun j u hu => by
      have := hz j u hu
      rwa [add_none, add_none] at this
    exact ⟨b, o, f k, rfl, World.block_lt_of_cell? w _ (hat 0 _ rfl), by simp [hk], hat 0 _ rfl, hat 1 _ rfl, hat 2 _ rfl, hat 3 _ rfl, hat 4 _ rfl⟩
end
end Go.Proofs.Ytdmnkmdlochogab
