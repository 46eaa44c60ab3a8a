/-
  Craft: a row of them, how the arguments of the laws on craft read. Conditions: stated at each theorem.
-/
import Derived.Test.YtfffahkommbheaaDoorOg
namespace Go.Proofs.YtfffahkommbheaaDoor
open Go.Joins Go.ChangeShapes Go.WideShapes Go.ChangeAt Go.RowKit Go.Deep

structure CC where
  id : Int
  nm : ByteArray
  dr : Int
  ah : Int
  be : Int
  sp : Int
  fu : Int
/-- From its place o on block b holds the craft v. -/
def At7 (w : World) (b o : Nat) (v : CC) : Prop := w.cell? ⟨b, o, none⟩ = some (.int .i64 v.id) ∧ w.cell? ⟨b, o + 1, none⟩ = some (.string v.nm) ∧ w.cell? ⟨b, o + 2, none⟩ = some (.int .i64 v.dr) ∧ w.cell? ⟨b, o + 3, none⟩ = some (.int .i64 v.ah) ∧ w.cell? ⟨b, o + 4, none⟩ = some (.int .i64 v.be) ∧ w.cell? ⟨b, o + 5, none⟩ = some (.int .i64 v.sp) ∧ w.cell? ⟨b, o + 6, none⟩ = some (.int .i64 v.fu)
theorem At7.on {w w' : World} {B b o : Nat} {v : CC} (h : At7 w b o v) (hb : Below B w w') (hB : b < B) : At7 w' b o v := by
  obtain ⟨h0, h1, h2, h3, h4, h5, h6⟩ := h
  exact ⟨(hb.cell (p := ⟨b, _, none⟩) hB).trans h0, (hb.cell (p := ⟨b, _, none⟩) hB).trans h1, (hb.cell (p := ⟨b, _, none⟩) hB).trans h2, (hb.cell (p := ⟨b, _, none⟩) hB).trans h3, (hb.cell (p := ⟨b, _, none⟩) hB).trans h4, (hb.cell (p := ⟨b, _, none⟩) hB).trans h5, (hb.cell (p := ⟨b, _, none⟩) hB).trans h6⟩
/-- The slice value with address A and n elements reads as the craft L; its block lies below B. -/
def Crafts (w : World) (B : Nat) (A : Option Addr) (n : Nat) (L : List CC) : Prop :=
  L.length = n ∧ ∀ k, k < n → ∃ (b o : Nat) (v : CC), A = some ⟨b, o, none⟩ ∧ b < B ∧ L[k]? = some v ∧ v.nm.size ≤ maxLen ∧ At7 w b (o + k * 7) v
theorem Crafts.on {w w' : World} {B B' n : Nat} {A : Option Addr} {L : List CC} (h : Crafts w B A n L) (hb : Below B' w w') (hB : B ≤ B') : Crafts w' B A n L :=
  ⟨h.1, fun k hk => by
    obtain ⟨b, o, v, hA, hlt, hL, hn, h7⟩ := h.2 k hk
    exact ⟨b, o, v, hA, hlt, hL, hn, h7.on hb (Nat.lt_of_lt_of_le hlt hB)⟩⟩
theorem Crafts.up {w : World} {B B' n : Nat} {A : Option Addr} {L : List CC} (h : Crafts w B A n L) (hB : B ≤ B') : Crafts w B' A n L :=
  ⟨h.1, fun k hk => by
    obtain ⟨b, o, v, hA, hlt, r⟩ := h.2 k hk
    exact ⟨b, o, v, hA, Nat.lt_of_lt_of_le hlt hB, r⟩⟩
theorem crafts_at {w W : World} {n : Nat} {A : Option Addr} {L : List CC} (h : Crafts w w.heap.size A n L) (hb : Below w.heap.size w W) : Crafts W W.heap.size A n L :=
  (h.on hb (Nat.le_refl _)).up hb.size
theorem Crafts.take {w : World} {B n : Nat} {A : Option Addr} {L : List CC} (h : Crafts w B A n L) {k : Nat} (hk : k ≤ n) : Crafts w B A k (L.take k) :=
  ⟨by have := h.1; simp; omega, fun j hj => by
    obtain ⟨b, o, v, hA, hlt, hL, r⟩ := h.2 j (by omega)
    exact ⟨b, o, v, hA, hlt, by rw [List.getElem?_take, if_pos hj]; exact hL, r⟩⟩
/-! ### An argument -/
theorem cellsCraftL : Tryd.prog.cellsOf 38 = 7 := by kernel_rfl
theorem array7 {α : Type} {cs : Array α} (h : cs.size = 7) : ∃ c0 c1 c2 c3 c4 c5 c6, cs = #[c0, c1, c2, c3, c4, c5, c6] := by
  obtain ⟨l⟩ := cs
  match l, h with
  | [c0, c1, c2, c3, c4, c5, c6], _ => exact ⟨c0, c1, c2, c3, c4, c5, c6, rfl⟩
theorem at_some {α : Type} {l : List α} {i : Nat} (h : i < l.length) : ∃ y, l[i]? = some y := ⟨_, List.getElem?_eq_getElem h⟩
section
variable {H : Type} {enc : TypeId × Value → H} {w : World} {base : Nat} {spare : Nat → Bool} {held : Bool} {r : Reach} {b0 : Nat}
theorem craft_cells {n : Nat} {v0 v1 v2 v3 v4 v5 v6 : Value} {y : DataW H × List MemPlace} (h : DataW.trod enc Tryd.prog w base spare held n 38 [v0, v1, v2, v3, v4, v5, v6] = some y) :
    ∃ v : CC, [v0, v1, v2, v3, v4, v5, v6] = [.int .i64 v.id, .string v.nm, .int .i64 v.dr, .int .i64 v.ah, .int .i64 v.be, .int .i64 v.sp, .int .i64 v.fu] ∧ v.nm.size ≤ maxLen := by
  obtain ⟨xs, m, _, rfl, hl, hlen, hf⟩ := DataW.trod_struct Tryd.underlying38 h
  obtain ⟨y0, e0⟩ := at_some (l := xs) (i := 0) (by rw [hlen]; decide)
  have g0 : DataW.trod enc Tryd.prog w base spare held m 3 (([v0, v1, v2, v3, v4, v5, v6].drop 0).take (Tryd.prog.cellsOf 3)) = some y0 := (hf 0 _ rfl).trans e0
  obtain ⟨y1, e1⟩ := at_some (l := xs) (i := 1) (by rw [hlen]; decide)
  have g1 : DataW.trod enc Tryd.prog w base spare held m 9 (([v0, v1, v2, v3, v4, v5, v6].drop 1).take (Tryd.prog.cellsOf 9)) = some y1 := (hf 1 _ rfl).trans e1
  obtain ⟨y2, e2⟩ := at_some (l := xs) (i := 2) (by rw [hlen]; decide)
  have g2 : DataW.trod enc Tryd.prog w base spare held m 3 (([v0, v1, v2, v3, v4, v5, v6].drop 2).take (Tryd.prog.cellsOf 3)) = some y2 := (hf 2 _ rfl).trans e2
  obtain ⟨y3, e3⟩ := at_some (l := xs) (i := 3) (by rw [hlen]; decide)
  have g3 : DataW.trod enc Tryd.prog w base spare held m 3 (([v0, v1, v2, v3, v4, v5, v6].drop 3).take (Tryd.prog.cellsOf 3)) = some y3 := (hf 3 _ rfl).trans e3
  obtain ⟨y4, e4⟩ := at_some (l := xs) (i := 4) (by rw [hlen]; decide)
  have g4 : DataW.trod enc Tryd.prog w base spare held m 3 (([v0, v1, v2, v3, v4, v5, v6].drop 4).take (Tryd.prog.cellsOf 3)) = some y4 := (hf 4 _ rfl).trans e4
  obtain ⟨y5, e5⟩ := at_some (l := xs) (i := 5) (by rw [hlen]; decide)
  have g5 : DataW.trod enc Tryd.prog w base spare held m 3 (([v0, v1, v2, v3, v4, v5, v6].drop 5).take (Tryd.prog.cellsOf 3)) = some y5 := (hf 5 _ rfl).trans e5
  obtain ⟨y6, e6⟩ := at_some (l := xs) (i := 6) (by rw [hlen]; decide)
  have g6 : DataW.trod enc Tryd.prog w base spare held m 3 (([v0, v1, v2, v3, v4, v5, v6].drop 6).take (Tryd.prog.cellsOf 3)) = some y6 := (hf 6 _ rfl).trans e6
  simp only [cells3, cellsStr] at g0 g1 g2 g3 g4 g5 g6
  obtain ⟨x0, rfl⟩ : ∃ x : Int, v0 = .int .i64 x := int_cell (n := m) g0
  obtain ⟨x1, rfl, hn⟩ : ∃ s : ByteArray, v1 = .string s ∧ s.size ≤ maxLen := str_cell (n := m) g1
  obtain ⟨x2, rfl⟩ : ∃ x : Int, v2 = .int .i64 x := int_cell (n := m) g2
  obtain ⟨x3, rfl⟩ : ∃ x : Int, v3 = .int .i64 x := int_cell (n := m) g3
  obtain ⟨x4, rfl⟩ : ∃ x : Int, v4 = .int .i64 x := int_cell (n := m) g4
  obtain ⟨x5, rfl⟩ : ∃ x : Int, v5 = .int .i64 x := int_cell (n := m) g5
  obtain ⟨x6, rfl⟩ : ∃ x : Int, v6 = .int .i64 x := int_cell (n := m) g6
  exact ⟨⟨x0, x1, x2, x3, x4, x5, x6⟩, rfl, hn⟩
set_option maxRecDepth 100000 in
theorem open_craft {v : Value} {d : DataW H} {p : List MemPlace} (hv : Value.okWide Tryd.prog w r b0 38 v) (h : DataW.Trod enc Tryd.prog w base spare held 38 v d p) :
    ∃ c : CC, v = .agg #[.int .i64 c.id, .string c.nm, .int .i64 c.dr, .int .i64 c.ah, .int .i64 c.be, .int .i64 c.sp, .int .i64 c.fu] ∧ c.nm.size ≤ maxLen := by
  obtain ⟨cs, rfl, hsz⟩ := okWide_struct Tryd.underlying38 hv
  obtain ⟨c0, c1, c2, c3, c4, c5, c6, rfl⟩ := array7 (hsz.trans cellsCraftL)
  obtain ⟨fuel, hf⟩ := h
  obtain ⟨c, he, hn⟩ := craft_cells hf
  simp only [List.cons.injEq, and_true] at he
  obtain ⟨rfl, rfl, rfl, rfl, rfl, rfl, rfl⟩ := he
  exact ⟨c, rfl, hn⟩
end
end Go.Proofs.YtfffahkommbheaaDoor
