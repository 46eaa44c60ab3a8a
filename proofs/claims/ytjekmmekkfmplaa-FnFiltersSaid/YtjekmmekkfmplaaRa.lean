/-
  One of the first numbers of a list: contract of spec.l1Cur.among at a part of a list over this translation. Conditions: stated at each theorem.
-/
import Derived.Test.YtjekmmekkfmplaaRc
namespace Go.Proofs.Ytjekmmekkfmplaa
open Go.RowKit Go.Sort

theorem has_ints (w : World) (xs : List Int) : Has (w.alloc (.cells (xs.map (Value.int .i64)).toArray 3)) w.heap.size (xs.map (Value.int .i64)) := by
  have h := Has.new w (xs.map (Value.int .i64)).toArray 3
  simpa using h
/-- One of the first r numbers of a list that lies in a block of its own. -/
theorem among_pre (B : Nat) (A : Option Addr) (n c g k b cap r : Nat) (xs : List Int) (W : World) (h : Cur B A n c g k W) (hk : k < 1000000) (h1 : 1 < r) (h2 : r ≤ xs.length) (h3 : xs.length ≤ 200)
    (hb : Has W b (xs.map (Value.int .i64))) (hbg : b ≠ g) :
    Calls Try.prog 71 #[.pointer (some ⟨g, 0, none⟩), .slice (some ⟨b, 0, none⟩) r cap] W (AmongPost AnyI B A n c g k W) := by
  have hl : (xs.take r).length = r := by simp; omega
  have h := among_any AnyI B A n c g k b cap (xs.take r) W h hk (by omega) (by omega) (fun j x hx => by
    rw [List.getElem?_take] at hx
    split at hx
    · exact hb.2.1 j _ (by simp [hx])
    · cases hx) hb.1 hbg (fun _ _ => trivial)
  rwa [hl] at h
theorem grown_of_below {W W' : World} (h : Below W.heap.size W W') (r : Option Nat) : W.grownBy W' r := ⟨h.os, h.tape, h.output, h.size, fun k hk _ => h.block k hk⟩
theorem Cur.past {B : Nat} {A : Option Addr} {n c g k : Nat} {w W W' : World} {r : Option Nat} (h : Cur B A n c g k W) (hgw : g < w.heap.size) (hg : W.grownBy W' r) (hr : ∀ b, r = some b → w.heap.size ≤ b) : Cur B A n c g k W' :=
  h.kept hg (fun e => by have := hr g e.symm; omega) (fun i e => by have := hr i e; have := h.old; omega)
theorem grown_past {w W W' : World} {g : Nat} {r : Option Nat} (h : w.grownBy W (some g)) (hg : W.grownBy W' r) (hr : ∀ b, r = some b → w.heap.size ≤ b) : w.grownBy W' (some g) :=
  ⟨hg.os.trans h.os, hg.tape.trans h.tape, hg.output.trans h.output, Nat.le_trans h.size hg.size, fun i hi hne => (hg.block i (Nat.lt_of_lt_of_le hi h.size) (fun e => by have := hr i e.symm; omega)).trans (h.block i hi hne)⟩
theorem pick_ge1 (B : Nat) (A : Option Addr) (n c g k m : Nat) (w : World) (h : Cur B A n c g k w) (hk : k < 1000000) (h1 : 0 < m) (h2 : m ≤ 200) :
    Calls Try.prog 72 #[.pointer (some ⟨g, 0, none⟩), .int .i64 m] w fun e w' => ∃ v k' : Nat, v < m ∧ k ≤ k' ∧ k' ≤ k + 1 ∧ e = .returned (.int .i64 v) ∧ Cur B A n c g k' w' ∧ w.grownBy w' (some g) := by
  rcases Nat.lt_or_ge 1 m with h3 | h3
  · refine (pick_any B A n c g k m w h hk h3 h2).mono ?_
    rintro e w' ⟨v, hv, he, hc, hg⟩
    exact ⟨v, k + 1, hv, by omega, by omega, he, hc, hg⟩
  · obtain rfl : m = 1 := by omega
    have HC := Lib.hid h
    clear h h1 h2 h3
    go_enter Try.func72, Try.ntmps72
    go_wp2_with fail
    go_ret
    exact ⟨0, k, by omega, by omega, by omega, rfl, HC.out, ⟨rfl, rfl, rfl, Nat.le_refl _, fun _ _ _ => rfl⟩⟩
def IdPost (B : Nat) (A : Option Addr) (n c g k : Nat) (w : World) (e : Ending) (w' : World) : Prop :=
  ∃ (x : Int) (k' : Nat), k ≤ k' ∧ k' ≤ k + 4 ∧ e = .returned (.int .i64 x) ∧ Cur B A n c g k' w' ∧ w.grownBy w' (some g)
end Go.Proofs.Ytjekmmekkfmplaa
