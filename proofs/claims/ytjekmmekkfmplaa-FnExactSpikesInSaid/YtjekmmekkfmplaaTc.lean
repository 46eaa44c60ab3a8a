/-
  Rows that a loop collects, where no argument lies in a block of its own. Conditions: stated at each theorem.
-/
import Derived.Test.YtjekmmekkfmplaaBase
namespace Go.Proofs.Ytjekmmekkfmplaa
open Go.RowKit

def Col (w : World) (e : TypeId) (z : Nat) (v : Value) (n : Nat) (xs : List Value) (wr : World) : Prop :=
  wr.ownsRow w.heap.size e z v n xs ∧ Below w.heap.size w wr
theorem Col.next {w wr w1 : World} {e : TypeId} {z n : Nat} {v : Value} {xs : List Value} (h : Col w e z v n xs wr) (hb : Below wr.heap.size wr w1) : Col w e z v n xs w1 :=
  ⟨own_below h.1 hb, bthen h.2 hb h.2.size⟩
theorem col_start {w w2 : World} (e : TypeId) (z : Nat) (hb : Below w.heap.size w w2) : Col w e z (.slice (some ⟨w2.heap.size, 0, none⟩) 0 0) 0 [] (w2.alloc (.cells #[] e)) :=
  ⟨World.ownsRow_made (base := w.heap.size) (e := e) (size := z) w2 #[] 0 hb.size (by unfold maxLen; omega) (by simp), hb.alloc hb.size _⟩
theorem Col.step {w w1 w2 : World} {e : TypeId} {z n m : Nat} {v v' : Value} {xs ys : List Value} {o : Obj} (h : Col w e z v n xs w1)
    (ho : w2.ownsRow w.heap.size e z v' m ys) (hg : (w1.alloc o).grownBy w2 v.ownBlock) : Col w e z v' m ys w2 :=
  ⟨ho, (h.2.alloc h.2.size o).grown hg (by have := h.2.size; simp; omega) (fun j hj => (h.1.lt j hj).1)⟩
theorem Col.grow {w w1 w2 : World} {e : TypeId} {z n m : Nat} {v v' : Value} {xs ys : List Value} (h : Col w e z v n xs w1)
    (ho : w2.ownsRow w.heap.size e z v' m ys) (hg : w1.grownBy w2 v.ownBlock) : Col w e z v' m ys w2 :=
  ⟨ho, h.2.grown hg h.2.size (fun j hj => (h.1.lt j hj).1)⟩
def ivs (xs : List Int) : List Value := xs.map (Value.int .i64)
theorem ivs_snoc (xs : List Int) (x : Int) : ivs (xs ++ [x]) = ivs xs ++ [.int .i64 x] := by simp [ivs]
def IntsPost (L : List Int) (f : Nat → Int) (K : Bool) (w : World) (e : Ending) (w' : World) : Prop :=
  ∃ A c, e = .returned (.tuple #[.slice A L.length c, .bool K]) ∧ IFun w' w.heap.size w'.heap.size A L.length f ∧ Below w.heap.size w w'
theorem ints_of_col {w w' : World} {v : Value} {n : Nat} {L : List Int} {K : Bool} (h : Col w 3 1 v n (ivs L) w') (hn : L.length = n) : IntsPost L (fun j => L.getD j 0) K w (.returned (.tuple #[v, .bool K])) w' := by
  obtain ⟨A, c, rfl⟩ := own_slice h.1
  subst hn
  exact ⟨A, c, rfl, ifun_of_own h.1, h.2⟩
theorem pairs_of_col {w w' : World} {e : TypeId} {v : Value} {n : Nat} {L : List (Int × Int)} {K : Bool} (h : Col w e 2 v n (cells2 L) w') (hn : L.length = n) : PairsPost L K w (.returned (.tuple #[v, .bool K])) w' := by
  obtain ⟨A, c, rfl⟩ := own_slice h.1
  subst hn
  exact ⟨A, c, rfl, own2_of_row h.1 rfl, h.2⟩
end Go.Proofs.Ytjekmmekkfmplaa
