/-
  Soundings: a row of them, how the arguments of the laws on soundings read. Conditions: stated at each theorem.
-/
import Derived.Test.YtdmnkmdlochogabOg
import Derived.Test.YtdmnkmdlochogabQp
namespace Go.Proofs.Ytdmnkmdlochogab
open Go.Joins Go.ChangeShapes Go.WideShapes Go.ChangeAt Go.RowKit Go.Deep

/-- From its place o on block b holds the sounding v. -/
def At5 (w : World) (b o : Nat) (v : SD) : Prop := w.cell? ⟨b, o, none⟩ = some (.int .i64 v.id) ∧ w.cell? ⟨b, o + 1, none⟩ = some (.int .i64 v.x) ∧ w.cell? ⟨b, o + 2, none⟩ = some (.int .i64 v.y) ∧ w.cell? ⟨b, o + 3, none⟩ = some (.int .i64 v.dep) ∧ w.cell? ⟨b, o + 4, none⟩ = some (.int .i64 v.dbt)
theorem At5.on {w w' : World} {B b o : Nat} {v : SD} (h : At5 w b o v) (hb : Below B w w') (hB : b < B) : At5 w' b o v := by
  obtain ⟨h0, h1, h2, h3, h4⟩ := h
  exact ⟨(hb.cell (p := ⟨b, _, none⟩) hB).trans h0, (hb.cell (p := ⟨b, _, none⟩) hB).trans h1, (hb.cell (p := ⟨b, _, none⟩) hB).trans h2, (hb.cell (p := ⟨b, _, none⟩) hB).trans h3, (hb.cell (p := ⟨b, _, none⟩) hB).trans h4⟩
/-- The slice value with address A and n elements reads as the soundings L; its block lies below B. -/
def Sds (w : World) (B : Nat) (A : Option Addr) (n : Nat) (L : List SD) : Prop :=
  L.length = n ∧ ∀ k, k < n → ∃ (b o : Nat) (v : SD), A = some ⟨b, o, none⟩ ∧ b < B ∧ L[k]? = some v ∧ At5 w b (o + k * 5) v
theorem Sds.on {w w' : World} {B B' n : Nat} {A : Option Addr} {L : List SD} (h : Sds w B A n L) (hb : Below B' w w') (hB : B ≤ B') : Sds w' B A n L :=
  ⟨h.1, fun k hk => by
    obtain ⟨b, o, v, hA, hlt, hL, h5⟩ := h.2 k hk
    exact ⟨b, o, v, hA, hlt, hL, h5.on hb (Nat.lt_of_lt_of_le hlt hB)⟩⟩
theorem Sds.up {w : World} {B B' n : Nat} {A : Option Addr} {L : List SD} (h : Sds w B A n L) (hB : B ≤ B') : Sds w B' A n L :=
  ⟨h.1, fun k hk => by
    obtain ⟨b, o, v, hA, hlt, r⟩ := h.2 k hk
    exact ⟨b, o, v, hA, Nat.lt_of_lt_of_le hlt hB, r⟩⟩
theorem sds_at {w W : World} {n : Nat} {A : Option Addr} {L : List SD} (h : Sds w w.heap.size A n L) (hb : Below w.heap.size w W) : Sds W W.heap.size A n L :=
  (h.on hb (Nat.le_refl _)).up hb.size
theorem Sds.take {w : World} {B n : Nat} {A : Option Addr} {L : List SD} (h : Sds w B A n L) {k : Nat} (hk : k ≤ n) : Sds w B A k (L.take k) :=
  ⟨by have := h.1; simp; omega, fun j hj => by
    obtain ⟨b, o, v, hA, hlt, hL, r⟩ := h.2 j (by omega)
    exact ⟨b, o, v, hA, hlt, by rw [List.getElem?_take, if_pos hj]; exact hL, r⟩⟩
theorem sds_nil (w : World) (B : Nat) (A : Option Addr) : Sds w B A 0 [] := ⟨rfl, fun k hk => absurd hk (by omega)⟩
end Go.Proofs.Ytdmnkmdlochogab
