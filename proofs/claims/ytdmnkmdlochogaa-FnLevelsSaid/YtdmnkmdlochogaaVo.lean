/-
  Craft: a row of them, how the arguments of the laws on craft read. Conditions: stated at each theorem.
-/
import Derived.Test.YtdmnkmdlochogaaOg
namespace Go.Proofs.Ytdmnkmdlochogaa
open Go.Joins Go.ChangeShapes Go.WideShapes Go.ChangeAt Go.RowKit Go.Deep

structure CC where
  id : Int
  nm : ByteArray
  dr : Int
  ah : Int
  be : Int
  sp : Int
  fu : Int
/-- From its place o on block b holds the craft v. -/
def At7 (w : World) (b o : Nat) (v : CC) : Prop := w.cell? ⟨b, o, none⟩ = some (.int .i64 v.id) ∧ w.cell? ⟨b, o + 1, none⟩ = some (.string v.nm) ∧ w.cell? ⟨b, o + 2, none⟩ = some (.int .i64 v.dr) ∧ w.cell? ⟨b, o + 3, none⟩ = some (.int .i64 v.ah) ∧ w.cell? ⟨b, o + 4, none⟩ = some (.int .i64 v.be) ∧ w.cell? ⟨b, o + 5, none⟩ = some (.int .i64 v.sp) ∧ w.cell? ⟨b, o + 6, none⟩ = some (.int .i64 v.fu)
theorem At7.on {w w' : World} {B b o : Nat} {v : CC} (h : At7 w b o v) (hb : Below B w w') (hB : b < B) : At7 w' b o v := by
  obtain ⟨h0, h1, h2, h3, h4, h5, h6⟩ := h
  exact ⟨(hb.cell (p := ⟨b, _, none⟩) hB).trans h0, (hb.cell (p := ⟨b, _, none⟩) hB).trans h1, (hb.cell (p := ⟨b, _, none⟩) hB).trans h2, (hb.cell (p := ⟨b, _, none⟩) hB).trans h3, (hb.cell (p := ⟨b, _, none⟩) hB).trans h4, (hb.cell (p := ⟨b, _, none⟩) hB).trans h5, (hb.cell (p := ⟨b, _, none⟩) hB).trans h6⟩
/-- The slice value with address A and n elements reads as the craft L; its block lies below B. -/
def Crafts (w : World) (B : Nat) (A : Option Addr) (n : Nat) (L : List CC) : Prop :=
  L.length = n ∧ ∀ k, k < n → ∃ (b o : Nat) (v : CC), A = some ⟨b, o, none⟩ ∧ b < B ∧ L[k]? = some v ∧ v.nm.size ≤ maxLen ∧ At7 w b (o + k * 7) v
theorem Crafts.on {w w' : World} {B B' n : Nat} {A : Option Addr} {L : List CC} (h : Crafts w B A n L) (hb : Below B' w w') (hB : B ≤ B') : Crafts w' B A n L :=
  ⟨h.1, fun k hk => by
    obtain ⟨b, o, v, hA, hlt, hL, hn, h7⟩ := h.2 k hk
    exact ⟨b, o, v, hA, hlt, hL, hn, h7.on hb (Nat.lt_of_lt_of_le hlt hB)⟩⟩
theorem Crafts.up {w : World} {B B' n : Nat} {A : Option Addr} {L : List CC} (h : Crafts w B A n L) (hB : B ≤ B') : Crafts w B' A n L :=
  ⟨h.1, fun k hk => by
    obtain ⟨b, o, v, hA, hlt, r⟩ := h.2 k hk
    exact ⟨b, o, v, hA, Nat.lt_of_lt_of_le hlt hB, r⟩⟩
theorem crafts_at {w W : World} {n : Nat} {A : Option Addr} {L : List CC} (h : Crafts w w.heap.size A n L) (hb : Below w.heap.size w W) : Crafts W W.heap.size A n L :=
  (h.on hb (Nat.le_refl _)).up hb.size
theorem Crafts.take {w : World} {B n : Nat} {A : Option Addr} {L : List CC} (h : Crafts w B A n L) {k : Nat} (hk : k ≤ n) : Crafts w B A k (L.take k) :=
  ⟨by have := h.1; simp; omega, fun j hj => by
    obtain ⟨b, o, v, hA, hlt, hL, r⟩ := h.2 j (by omega)
    exact ⟨b, o, v, hA, hlt, by rw [List.getElem?_take, if_pos hj]; exact hL, r⟩⟩
end Go.Proofs.Ytdmnkmdlochogaa
