/-
  Regions that draw their order, over a class of worlds, step by step in the world as it is. Proved of every program. Conditions: stated at each theorem.
-/
import Derived.Test.YtjekmmekkfmplaaPw
namespace Go.Proofs.Ytjekmmekkfmplaa
open Go.RowKit Go.Sort

/-! ### Regions over a class of worlds, step by step in the world as it is -/
section
variable {P : Program} {ops : Array Oper} {Q : Exit → Act → World → Prop} {md : Region.Mode} {S : World → Prop}
theorem region_readsI {I : World → Prop} {id : Nat} {a : Act} {w : World} {l : List Oper} (n g : Nat) (R : List Nat) (hm : P.follows .mixedOrders = true) (hB : permRB l n R = true) (hg : R.length + g = l.length) (hW : I w.drew)
    (hQ : ∀ d v c a w, Q (.panic c) (Act.put a d v) w → Q (.panic c) a w)
    (h : wpQuiet P l.toArray (fun w' => ∃ x : InW I, w' = x.at_) (fun a' => wpAnyN P .any l.toArray Q (fun w' => ∃ x : InW I, w' = x.at_) n g (listR (Array.replicate l.length false) R) a' w.drew) (picks l R) a) : (Code.region id l.toArray true).wp P Q a w := by
  simp only [permRB, Bool.and_eq_true, decide_eq_true_eq] at hB
  obtain ⟨⟨⟨⟨⟨hsel, hn⟩, hs⟩, hc⟩, _⟩, hhead⟩ := hB
  have inv0 : HeadInv .any l.toArray n (Array.replicate l.length false) :=
    ⟨by simp, fun j oj _ hl => (by rw [getD_replicate_false] at hl; cases hl), fun t _ ht => getD_in (by simpa using ht) (getD_replicate_false _ _)⟩
  have hS : ∃ x : InW I, w.drew = x.at_ := ⟨⟨_, hW⟩, rfl⟩
  refine wp_region_any hm ?_
  have H := wpAnyN_readsW (md := .any) (Q := Q) (g := g) rfl hsel hs hc (by simpa using hn) hQ hS R (Array.replicate l.length false) a inv0 hhead h
  rw [hg] at H
  have := wpAny_of_N _ _ _ _ H
  simpa using this
theorem wpAnyN_restE {l : List Oper} {n g : Nat} {listed : Array Bool} {a : Act} {w : World} (L : List Nat) (hl : ops = l.toArray) (hs : Region.noSelect ops = true) (hg : L.length = g) (hB : pickB md ops L listed = true) (hS : S w)
    (h : wpQuiet P ops (fun w' => ∃ x : InW (fun u => u = w), w' = x.at_) (fun a' => Q .normal a' w) (picks l L) a) : wpAnyN P md ops Q S n g listed a w := by
  subst hg
  refine wpAnyN_of_quiet (C := fun w' => ∃ x : InW (fun u => u = w), w' = x.at_) (Qa := fun a' => Q .normal a' w) (fun a' w' hw' h' => by obtain ⟨x, rfl⟩ := hw'; rw [x.ok]; exact h') ?_ _ _ _ _ ⟨⟨w, rfl⟩, rfl⟩ (wpAnyQ_pick hl hs L _ _ hB h)
  rintro w' ⟨x, rfl⟩
  rw [x.ok]
  exact hS
end
end Go.Proofs.Ytjekmmekkfmplaa
