/-
  What the drawn regions of laws.FnExactAddReading share. Conditions: stated at each theorem.
-/
import Derived.Test.YtgbldmihbgppmaaOg
import Derived.Test.YtgbldmihbgppmaaGl
import Derived.Test.YtgbldmihbgppmaaAddS
import Derived.Deep.RegionHeld3
import Derived.Deep.DeepCutAuto
namespace Go.Proofs.Ytgbldmihbgppmaa
open Go.RowKit

/-- The region with a number within a function's body. -/
def regOf (i : Nat) : Code → Option Code
  | .seq a b => match regOf i a with | some c => some c | none => regOf i b
  | .cond _ a b => match regOf i a with | some c => some c | none => regOf i b
  | .region j ops d => if j = i then some (.region j ops d) else none
  | _ => none
theorem has_lt {w w' : World} {g : Nat} {cs : List Value} (h : Has w g cs) (hb : Below w.heap.size w w') : Has w' g cs ∧ g < w.heap.size := ⟨h.next hb, h.1⟩
theorem le_base {X Wc w7 : World} (h : Below X.heap.size X Wc) (_ : Below Wc.heap.size Wc w7) : X.heap.size ≤ Wc.heap.size := h.size
theorem close_last {X w7 : World} {T : TypeId} {lo c : Nat} {i z : Int} {s : ByteArray} {A : Option Addr} {L : List (Int × Int)} (hp : Own2 w7 lo w7.heap.size A L.length L ∧ lo ≤ w7.heap.size ∧ X.heap.size ≤ lo) (hb : Below X.heap.size X w7) :
    Hid (Below X.heap.size X (w7.alloc (.cells #[.int .i64 i, .string s, .int .i64 z, .slice A L.length c] T)) ∧ Has (w7.alloc (.cells #[.int .i64 i, .string s, .int .i64 z, .slice A L.length c] T)) w7.heap.size [.int .i64 i, .string s, .int .i64 z, .slice A L.length c] ∧ Own2 (w7.alloc (.cells #[.int .i64 i, .string s, .int .i64 z, .slice A L.length c] T)) lo w7.heap.size A L.length L ∧ X.heap.size ≤ lo ∧ w7.heap.size ≤ (w7.alloc (.cells #[.int .i64 i, .string s, .int .i64 z, .slice A L.length c] T)).heap.size ∧ X.heap.size ≤ w7.heap.size ∧ (w7.heap.size < lo ∨ w7.heap.size ≤ w7.heap.size)) :=
  Lib.hid ⟨hb.alloc hb.size _, Has.new _ _ _, hp.1.on ((Below.refl _ _).alloc (Nat.le_refl _) _) (Nat.le_refl _), hp.2.2, by simp, hb.size, .inr (Nat.le_refl _)⟩
theorem close_set {X w7 : World} {lo c g : Nat} {i z : Int} {s : ByteArray} {u0 u1 u2 u3 : Value} {A : Option Addr} {L : List (Int × Int)} (hq : (Has w7 g [u0, u1, u2, u3] ∧ g < lo) ∧ X.heap.size ≤ g) (hp : Own2 w7 lo w7.heap.size A L.length L ∧ lo ≤ w7.heap.size ∧ X.heap.size ≤ lo) (hb : Below X.heap.size X w7) :
    Hid (Below X.heap.size X ((((w7.setCell ⟨g, 0, none⟩ (.int .i64 i)).setCell ⟨g, 1, none⟩ (.string s)).setCell ⟨g, 2, none⟩ (.int .i64 z)).setCell ⟨g, 3, none⟩ (.slice A L.length c)) ∧ Has ((((w7.setCell ⟨g, 0, none⟩ (.int .i64 i)).setCell ⟨g, 1, none⟩ (.string s)).setCell ⟨g, 2, none⟩ (.int .i64 z)).setCell ⟨g, 3, none⟩ (.slice A L.length c)) g [.int .i64 i, .string s, .int .i64 z, .slice A L.length c] ∧ Own2 ((((w7.setCell ⟨g, 0, none⟩ (.int .i64 i)).setCell ⟨g, 1, none⟩ (.string s)).setCell ⟨g, 2, none⟩ (.int .i64 z)).setCell ⟨g, 3, none⟩ (.slice A L.length c)) lo w7.heap.size A L.length L ∧ X.heap.size ≤ lo ∧ w7.heap.size ≤ ((((w7.setCell ⟨g, 0, none⟩ (.int .i64 i)).setCell ⟨g, 1, none⟩ (.string s)).setCell ⟨g, 2, none⟩ (.int .i64 z)).setCell ⟨g, 3, none⟩ (.slice A L.length c)).heap.size ∧ X.heap.size ≤ g ∧ (g < lo ∨ w7.heap.size ≤ g)) :=
  Lib.hid ⟨(((hb.setCell (p := ⟨g, 0, none⟩) hq.2 _).setCell (p := ⟨g, 1, none⟩) hq.2 _).setCell (p := ⟨g, 2, none⟩) hq.2 _).setCell (p := ⟨g, 3, none⟩) hq.2 _, (((hq.1.1.set 0 _).set 1 _).set 2 _).set 3 _, (((hp.1.put ⟨g, 0, none⟩ _ (.inl hq.1.2)).put ⟨g, 1, none⟩ _ (.inl hq.1.2)).put ⟨g, 2, none⟩ _ (.inl hq.1.2)).put ⟨g, 3, none⟩ _ (.inl hq.1.2), hp.2.2, by simp [World.setCell], hq.2, .inl hq.1.2⟩

/-- What such a region leaves: a struct in block g whose row lies from lo on and below hi. -/
abbrev Left (X : World) (id ze : Int) (nm : ByteArray) (l : List (Int × Int)) (t y : Int) (g lo hi : Nat) (A : Option Addr) (c2 : Nat) (wx : World) : Prop :=
  Below X.heap.size X wx ∧ Has wx g [.int .i64 (adId id ze nm l t y), .string (adNm id ze nm l t y), .int .i64 (adZe id ze nm l t y), .slice A (adLs id ze nm l t y).length c2] ∧ Own2 wx lo hi A (adLs id ze nm l t y).length (adLs id ze nm l t y) ∧ X.heap.size ≤ lo ∧ hi ≤ wx.heap.size ∧ X.heap.size ≤ g ∧ (g < lo ∨ hi ≤ g)
end Go.Proofs.Ytgbldmihbgppmaa
