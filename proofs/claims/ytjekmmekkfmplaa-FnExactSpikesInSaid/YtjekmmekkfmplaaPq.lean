/-
  Regions that draw their order over a class of worlds of one's own: the readings first, then step by step. Proved of every program. Conditions: stated at each theorem.
-/
import Derived.Test.YtjekmmekkfmplaaPerm
namespace Go.Proofs.Ytjekmmekkfmplaa
open Go.RowKit Go.Sort

/-- A world of which P holds. -/
structure InW (P : World → Prop) where
  at_ : World
  ok : P at_
instance {I : World → Prop} [h : Nonempty {w : World // I w}] : Nonempty (InW I) := h.elim fun x => ⟨⟨x.1, x.2⟩⟩
section
variable {P : Program} {Q : Exit → Act → World → Prop}
theorem region_readsS {I : World → Prop} {id : Nat} {a : Act} {w : World} {l : List Oper} (n g : Nat) (R : List Nat) (hm : P.follows .mixedOrders = true) (hB : permRB l n R = true) (hg : R.length + g = l.length) (hW : I w.drew)
    (hQ : ∀ d v c a w, Q (.panic c) (Act.put a d v) w → Q (.panic c) a w)
    (h : wpQuiet P l.toArray (fun w' => ∃ x : InW I, w' = x.at_) (fun a' => ∀ w', (∃ x : InW I, w' = x.at_) →
      wpAnyN P .any l.toArray Q (fun w' => ∃ x : InW I, w' = x.at_) n g (listR (Array.replicate l.length false) R) a' w') (picks l R) a) : (Code.region id l.toArray true).wp P Q a w := by
  simp only [permRB, Bool.and_eq_true, decide_eq_true_eq] at hB
  obtain ⟨⟨⟨⟨⟨hsel, hn⟩, hs⟩, hc⟩, _⟩, hhead⟩ := hB
  have inv0 : HeadInv .any l.toArray n (Array.replicate l.length false) :=
    ⟨by simp, fun j oj _ hl => (by rw [getD_replicate_false] at hl; cases hl), fun t _ ht => getD_in (by simpa using ht) (getD_replicate_false _ _)⟩
  have hS : ∃ x : InW I, w.drew = x.at_ := ⟨⟨_, hW⟩, rfl⟩
  refine wp_region_any hm ?_
  have H := wpAnyN_reads (md := .any) (Q := Q) (g := g) rfl hsel hs hc (by simpa using hn) hQ hS R (Array.replicate l.length false) a inv0 hhead h
  rw [hg] at H
  have := wpAny_of_N _ _ _ _ H
  simpa using this
end
end Go.Proofs.Ytjekmmekkfmplaa
