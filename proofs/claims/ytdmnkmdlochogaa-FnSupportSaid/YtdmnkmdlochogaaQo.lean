/-
  Soundings: a row of them, how the arguments of the laws on soundings read. Conditions: stated at each theorem.
-/
import Derived.Test.YtdmnkmdlochogaaOg
import Derived.Test.YtdmnkmdlochogaaQp
namespace Go.Proofs.Ytdmnkmdlochogaa
open Go.Joins Go.ChangeShapes Go.WideShapes Go.ChangeAt Go.RowKit Go.Deep

/-- From its place o on block b holds the sounding v. -/
def At5 (w : World) (b o : Nat) (v : SD) : Prop := w.cell? ⟨b, o, none⟩ = some (.int .i64 v.id) ∧ w.cell? ⟨b, o + 1, none⟩ = some (.int .i64 v.x) ∧ w.cell? ⟨b, o + 2, none⟩ = some (.int .i64 v.y) ∧ w.cell? ⟨b, o + 3, none⟩ = some (.int .i64 v.dep) ∧ w.cell? ⟨b, o + 4, none⟩ = some (.int .i64 v.dbt)
theorem At5.on {w w' : World} {B b o : Nat} {v : SD} (h : At5 w b o v) (hb : Below B w w') (hB : b < B) : At5 w' b o v := by
  obtain ⟨h0, h1, h2, h3, h4⟩ := h
  exact ⟨(hb.cell (p := ⟨b, _, none⟩) hB).trans h0, (hb.cell (p := ⟨b, _, none⟩) hB).trans h1, (hb.cell (p := ⟨b, _, none⟩) hB).trans h2, (hb.cell (p := ⟨b, _, none⟩) hB).trans h3, (hb.cell (p := ⟨b, _, none⟩) hB).trans h4⟩
/-- The slice value with address A and n elements reads as the soundings L; its block lies below B. -/
def Sds (w : World) (B : Nat) (A : Option Addr) (n : Nat) (L : List SD) : Prop :=
  L.length = n ∧ ∀ k, k < n → ∃ (b o : Nat) (v : SD), A = some ⟨b, o, none⟩ ∧ b < B ∧ L[k]? = some v ∧ At5 w b (o + k * 5) v
theorem Sds.on {w w' : World} {B B' n : Nat} {A : Option Addr} {L : List SD} (h : Sds w B A n L) (hb : Below B' w w') (hB : B ≤ B') : Sds w' B A n L :=
  ⟨h.1, fun k hk => by
    obtain ⟨b, o, v, hA, hlt, hL, h5⟩ := h.2 k hk
    exact ⟨b, o, v, hA, hlt, hL, h5.on hb (Nat.lt_of_lt_of_le hlt hB)⟩⟩
theorem Sds.up {w : World} {B B' n : Nat} {A : Option Addr} {L : List SD} (h : Sds w B A n L) (hB : B ≤ B') : Sds w B' A n L :=
  ⟨h.1, fun k hk => by
    obtain ⟨b, o, v, hA, hlt, r⟩ := h.2 k hk
    exact ⟨b, o, v, hA, Nat.lt_of_lt_of_le hlt hB, r⟩⟩
theorem sds_at {w W : World} {n : Nat} {A : Option Addr} {L : List SD} (h : Sds w w.heap.size A n L) (hb : Below w.heap.size w W) : Sds W W.heap.size A n L :=
  (h.on hb (Nat.le_refl _)).up hb.size
theorem Sds.take {w : World} {B n : Nat} {A : Option Addr} {L : List SD} (h : Sds w B A n L) {k : Nat} (hk : k ≤ n) : Sds w B A k (L.take k) :=
  ⟨by have := h.1; simp; omega, fun j hj => by
    obtain ⟨b, o, v, hA, hlt, hL, r⟩ := h.2 j (by omega)
    exact ⟨b, o, v, hA, hlt, by rw [List.getElem?_take, if_pos hj]; exact hL, r⟩⟩
theorem sds_nil (w : World) (B : Nat) (A : Option Addr) : Sds w B A 0 [] := ⟨rfl, fun k hk => absurd hk (by omega)⟩
/-! ### An argument -/
theorem cellsSpotS : Try.prog.cellsOf 156 = 2 := by kernel_rfl
theorem cellsSoundL : Try.prog.cellsOf 158 = 5 := by kernel_rfl
theorem array5s {α : Type} {cs : Array α} (h : cs.size = 5) : ∃ c0 c1 c2 c3 c4, cs = #[c0, c1, c2, c3, c4] := by
  obtain ⟨l⟩ := cs
  match l, h with
  | [c0, c1, c2, c3, c4], _ => exact ⟨c0, c1, c2, c3, c4, rfl⟩
theorem at_someS {α : Type} {l : List α} {i : Nat} (h : i < l.length) : ∃ y, l[i]? = some y := ⟨_, List.getElem?_eq_getElem h⟩
section
variable {H : Type} {enc : TypeId × Value → H} {w : World} {base : Nat} {spare : Nat → Bool} {held : Bool} {r : Reach} {b0 : Nat}
theorem spot_cellsS {n : Nat} {v0 v1 : Value} {y : DataW H × List MemPlace} (h : DataW.trod enc Try.prog w base spare held n 156 [v0, v1] = some y) :
    ∃ x y : Int, v0 = .int .i64 x ∧ v1 = .int .i64 y := by
  obtain ⟨y0, y1, m', _, _, h0, h1⟩ := trod_struct2 Try.underlying156 h
  simp only [cells3] at h0 h1
  obtain ⟨x, rfl⟩ : ∃ x : Int, v0 = .int .i64 x := int_cell (n := m') h0
  obtain ⟨y, rfl⟩ : ∃ x : Int, v1 = .int .i64 x := int_cell (n := m') h1
  exact ⟨x, y, rfl, rfl⟩
theorem sound_cells {n : Nat} {v0 v1 v2 v3 v4 : Value} {y : DataW H × List MemPlace} (h : DataW.trod enc Try.prog w base spare held n 158 [v0, v1, v2, v3, v4] = some y) :
    ∃ v : SD, [v0, v1, v2, v3, v4] = [.int .i64 v.id, .int .i64 v.x, .int .i64 v.y, .int .i64 v.dep, .int .i64 v.dbt] := by
  obtain ⟨xs, m, _, rfl, hl, hlen, hf⟩ := DataW.trod_struct Try.underlying158 h
  obtain ⟨y0, e0⟩ := at_someS (l := xs) (i := 0) (by rw [hlen]; decide)
  have g0 : DataW.trod enc Try.prog w base spare held m 3 (([v0, v1, v2, v3, v4].drop 0).take (Try.prog.cellsOf 3)) = some y0 := (hf 0 _ rfl).trans e0
  obtain ⟨y1, e1⟩ := at_someS (l := xs) (i := 1) (by rw [hlen]; decide)
  have g1 : DataW.trod enc Try.prog w base spare held m 156 (([v0, v1, v2, v3, v4].drop 1).take (Try.prog.cellsOf 156)) = some y1 := (hf 1 _ rfl).trans e1
  obtain ⟨y2, e2⟩ := at_someS (l := xs) (i := 2) (by rw [hlen]; decide)
  have g2 : DataW.trod enc Try.prog w base spare held m 3 (([v0, v1, v2, v3, v4].drop 3).take (Try.prog.cellsOf 3)) = some y2 := (hf 2 _ rfl).trans e2
  obtain ⟨y3, e3⟩ := at_someS (l := xs) (i := 3) (by rw [hlen]; decide)
  have g3 : DataW.trod enc Try.prog w base spare held m 3 (([v0, v1, v2, v3, v4].drop 4).take (Try.prog.cellsOf 3)) = some y3 := (hf 3 _ rfl).trans e3
  simp only [cells3, cellsSpotS] at g0 g1 g2 g3
  obtain ⟨x0, rfl⟩ : ∃ x : Int, v0 = .int .i64 x := int_cell (n := m) g0
  obtain ⟨x1, x2, rfl, rfl⟩ : ∃ x y : Int, v1 = .int .i64 x ∧ v2 = .int .i64 y := spot_cellsS (n := m) g1
  obtain ⟨x3, rfl⟩ : ∃ x : Int, v3 = .int .i64 x := int_cell (n := m) g2
  obtain ⟨x4, rfl⟩ : ∃ x : Int, v4 = .int .i64 x := int_cell (n := m) g3
  exact ⟨⟨x0, x1, x2, x3, x4⟩, rfl⟩
set_option maxRecDepth 100000 in
theorem open_sounding {v : Value} {d : DataW H} {p : List MemPlace} (hv : Value.okWide Try.prog w r b0 158 v) (h : DataW.Trod enc Try.prog w base spare held 158 v d p) :
    ∃ c : SD, v = .agg #[.int .i64 c.id, .int .i64 c.x, .int .i64 c.y, .int .i64 c.dep, .int .i64 c.dbt] := by
  obtain ⟨cs, rfl, hsz⟩ := okWide_struct Try.underlying158 hv
  obtain ⟨c0, c1, c2, c3, c4, rfl⟩ := array5s (hsz.trans cellsSoundL)
  obtain ⟨fuel, hf⟩ := h
  obtain ⟨c, he⟩ := sound_cells hf
  simp only [List.cons.injEq, and_true] at he
  obtain ⟨rfl, rfl, rfl, rfl, rfl⟩ := he
  exact ⟨c, rfl⟩
end
section
variable {H : Type} {enc : TypeId × Value → H} {w : World} {base : Nat} {spare : Nat → Bool} {held : Bool} {r : Reach} {b0 : Nat}
set_option maxRecDepth 100000 in
theorem open_spotS {v : Value} {d : DataW H} {p : List MemPlace} (hv : Value.okWide Try.prog w r b0 156 v) (h : DataW.Trod enc Try.prog w base spare held 156 v d p) : ∃ x y : Int, v = .agg #[.int .i64 x, .int .i64 y] := by
  obtain ⟨v0, v1, y0, y1, n, rfl, _, _, h0, h1⟩ := open_agg2 Try.underlying156 (by kernel_rfl) cellsSpotS hv h
  obtain ⟨x, rfl⟩ := int_cell h0
  obtain ⟨y, rfl⟩ := int_cell h1
  exact ⟨x, y, rfl⟩
end
section
variable {H : Type} {enc : TypeId × Value → H} {w : World} {base : Nat} {spare : Nat → Bool} {held : Bool} {r : Reach} {b0 : Nat}
set_option maxRecDepth 100000 in
theorem open_soundings {A : Option Addr} {n c : Nat} {d : DataW H} {p : List MemPlace} (h : DataW.Trod enc Try.prog w 0 (fun _ => true) true 100 (.slice A n c) d p) :
    n ≤ maxLen ∧ ∃ L, Sds w w.heap.size A n L := by
  obtain ⟨fuel, hf⟩ := h
  rcases open_slice Try.underlying100 hf with ⟨hcs, _⟩ | ⟨a, len, cap, m, n', D, Pl, hcs, _, hl, hm, hmm, _, hx⟩
  · simp [Value.cells] at hcs
    obtain ⟨rfl, rfl, rfl⟩ := hcs
    exact ⟨by unfold maxLen; omega, [], rfl, fun k hk => absurd hk (by omega)⟩
  · simp [Value.cells] at hcs
    obtain ⟨rfl, rfl, rfl⟩ := hcs
    simp only [if_true] at hmm
    rw [cellsSoundL] at hx
    have key : ∀ i, i < n → ∃ z : SD, ∀ j u, ([.int .i64 z.id, .int .i64 z.x, .int .i64 z.y, .int .i64 z.dep, .int .i64 z.dbt] : List Value)[j]? = some u → w.cell? ((a.add (i * 5)).add j) = some u := fun i hi => by
      obtain ⟨cs', hc, ht⟩ := hx i (by omega)
      obtain ⟨_, hlen, hat⟩ := World.cells?_some hc
      match cs', hlen with
      | [v0, v1, v2, v3, v4], _ =>
        obtain ⟨z, he⟩ := sound_cells ht
        refine ⟨z, fun j u hu => ?_⟩
        rw [← he] at hu
        obtain ⟨hj, hu'⟩ := List.getElem?_eq_some_iff.1 hu
        rw [← hu']
        exact (hat j hj).trans (List.getElem?_eq_getElem hj)
    obtain ⟨b, o, spot⟩ := a
    rcases Nat.eq_zero_or_pos n with h0 | hpos
    · subst h0
      exact ⟨by omega, [], rfl, fun k hk => absurd hk (by omega)⟩
    have hspot : spot = none := by
      obtain ⟨z, hz⟩ := key 0 hpos
      have := World.cell?_spot (hz 0 _ rfl)
      simpa [Addr.add] using this
    subst hspot
    obtain ⟨f, hfx⟩ := choose_lt (α := SD) key
    refine ⟨by omega, (List.range n).map f, by simp, fun k hk => ?_⟩
    have hz := hfx k hk
    have hat : ∀ j u, ([.int .i64 (f k).id, .int .i64 (f k).x, .int .i64 (f k).y, .int .i64 (f k).dep, .int .i64 (f k).dbt] : List Value)[j]? = some u → w.cell? ⟨b, o + k * 5 + j, none⟩ = some u := fun j u hu => by
      have := hz j u hu
      rwa [add_none, add_none] at this
    exact ⟨b, o, f k, rfl, World.block_lt_of_cell? w _ (hat 0 _ rfl), by simp [hk], hat 0 _ rfl, hat 1 _ rfl, hat 2 _ rfl, hat 3 _ rfl, hat 4 _ rfl⟩
end
end Go.Proofs.Ytdmnkmdlochogaa
