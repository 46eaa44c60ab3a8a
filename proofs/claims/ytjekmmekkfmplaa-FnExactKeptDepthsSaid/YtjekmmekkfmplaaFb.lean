/-
  What a mark may turn. Conditions: stated at each theorem.
-/
import Derived.Test.YtjekmmekkfmplaaBase
namespace Go.Proofs.Ytjekmmekkfmplaa
open Go.RowKit

/-- Of what was there, only the blocks from lo on and below hi may have turned. -/
structure FarB (lo hi : Nat) (w w' : World) : Prop where
  os : w'.os = w.os
  tape : w'.tape = w.tape
  output : w'.output = w.output
  size : w.heap.size ≤ w'.heap.size
  block : ∀ k, k < w.heap.size → (k < lo ∨ hi ≤ k) → w'.heap[k]? = w.heap[k]?
theorem FarB.refl (lo hi : Nat) (w : World) : FarB lo hi w w := ⟨rfl, rfl, rfl, Nat.le_refl _, fun _ _ _ => rfl⟩
theorem FarB.setCell {lo hi : Nat} {a w : World} (h : FarB lo hi a w) {p : Addr} (h1 : lo ≤ p.block) (h2 : p.block < hi) (u : Value) : FarB lo hi a (w.setCell p u) :=
  ⟨h.os, h.tape, h.output, by simpa [World.setCell] using h.size, fun k hk ho => (Below.heap_setCell _ _ _ _ (by omega)).trans (h.block k hk ho)⟩
theorem FarB.next {lo hi : Nat} {a w w' : World} (h : FarB lo hi a w) (hb : Below w.heap.size w w') : FarB lo hi a w' :=
  ⟨hb.os.trans h.os, hb.tape.trans h.tape, hb.output.trans h.output, Nat.le_trans h.size hb.size, fun k hk ho => (hb.block k (Nat.lt_of_lt_of_le hk h.size)).trans (h.block k hk ho)⟩
theorem FarB.below {lo hi : Nat} {w w' : World} (h : FarB lo hi w w') {B : Nat} (hB : B ≤ lo) (hs : B ≤ w.heap.size) : Below B w w' :=
  ⟨h.os, h.tape, h.output, h.size, fun k hk => h.block k (by omega) (.inl (by omega))⟩
theorem IFun.farB {w w' : World} {lo hi lo' hi' n : Nat} {A : Option Addr} {f : Nat → Int} (h : IFun w lo hi A n f) (hf : FarB lo' hi' w w') (hs : hi ≤ w.heap.size) (hd : hi ≤ lo' ∨ hi' ≤ lo) : IFun w' lo hi A n f := fun k hk => by
  obtain ⟨g, hA, h1, h2, h3, h4⟩ := h k hk
  have hb := hf.block g (by omega) (by omega)
  exact ⟨g, hA, h1, h2, (World.cell?_of_block (a := ⟨g, k, none⟩) hb).trans h3, (World.frozen?_of_block (a := ⟨g, k, none⟩) hb).trans h4⟩
end Go.Proofs.Ytjekmmekkfmplaa
