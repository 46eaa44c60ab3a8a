/-
  A region that draws its order: plain readings ahead of two operations that make memory, one behind the other, behind which all is forced. Proved of every program. Conditions: stated at the theorem.
-/
import Derived.Test.YtlggcfeclbcfaaaMid
namespace Go.Proofs.Ytlggcfeclbcfaaa
open Go.RowKit

section
variable {P : Program} {Q : Exit → Act → World → Prop}
def mid2B (l : List Oper) (m : Nat) : Bool :=
  Region.noSelect l.toArray && decide (m + 2 < l.length) && Region.sinkB .any l.toArray (m + 2) && Region.chainB .any l.toArray (m + 2) && (l.take m).all valueB && Region.lexHead .any l.toArray (l.length - m) m 0 (Array.replicate l.length false)
theorem region_mid2 {id : Nat} {a : Act} {w W : World} {l : List Oper} (m : Nat) (hm : P.follows .mixedOrders = true) (hB : mid2B l m = true) (hW : Below W.heap.size W w)
    (hQ : ∀ d v c a w, Q (.panic c) (Act.put a d v) w → Q (.panic c) a w)
    (h : wpQuiet P l.toArray (fun w' => ∃ x : Later W, w' = x.at_) (fun a' => ∀ w', (∃ x : Later W, w' = x.at_) →
      wpOp P l.toArray Q m (fun a1 w1 => (∃ x : Later W, w1 = x.at_) ∧ wpOp P l.toArray Q (m + 1) (fun a'' w'' => (∃ x : Later W, w'' = x.at_) ∧ wpList P l.toArray Q (l.drop (m + 2)) a'' w'') a1 w1) a' w') (l.take m) a) : (Code.region id l.toArray true).wp P Q a w := by
  simp only [mid2B, Bool.and_eq_true, decide_eq_true_eq] at hB
  obtain ⟨⟨⟨⟨⟨hsel, hn⟩, hs⟩, hc⟩, hv⟩, hlex⟩ := hB
  have htl : (l.take m).length = m := by simp; omega
  have hdl : (l.drop (m + 2)).length = l.length - (m + 2) := by simp
  have inv0 : HeadInv .any l.toArray (m + 2) (Array.replicate l.length false) :=
    ⟨by simp, fun j oj _ hl => (by rw [getD_replicate_false] at hl; cases hl), fun t _ ht => getD_in (by simpa using ht) (getD_replicate_false _ _)⟩
  have hS := later_now hW.drew
  refine wp_region_any hm ?_
  have H := wpAnyN_lex (md := .any) (ops := l.toArray) (n := m + 2) (m := m) (g := l.length - m) (Q := Q) hsel hs hc (by simpa using hn) (Nat.le_add_right _ _) hQ hS
    (R := fun a' => ∀ w', (∃ x : Later W, w' = x.at_) → wpOp P l.toArray Q m (fun a1 w1 => (∃ x : Later W, w1 = x.at_) ∧ wpOp P l.toArray Q (m + 1) (fun a'' w'' => (∃ x : Later W, w'' = x.at_) ∧ wpList P l.toArray Q (l.drop (m + 2)) a'' w'') a1 w1) a' w')
    (fun listed a' hq hr => by
      rw [show l.length - m = (l.drop (m + 2)).length + 1 + 1 by omega] at hq ⊢
      simp only [Region.seqB, Bool.and_eq_true, decide_eq_true_eq] at hq
      refine ⟨fun h1 => (by rw [hq.1] at h1; cases h1), fun i hi => ?_⟩
      rw [hq.1] at hi
      have him : i = m := by simpa using hi
      subst him
      refine wpOp_mono (fun a1 w1 h1 => ⟨fun _ => h1.1, fun h2 => (by rw [hq.2.1] at h2; cases h2), fun j hj => ?_⟩) (hr _ hS)
      rw [hq.2.1] at hj
      have hji : j = i + 1 := by simpa using hj
      subst hji
      exact wpOp_mono (fun a'' w'' h' => ⟨fun _ => h'.1, wpAnyN_of_seq _ (i + 2) _ a'' w'' (Nat.le_refl _) (fun j => by simp [List.getElem?_drop]) hq.2.2 h'.2⟩) h1.2)
    (l.take m) 0 (Array.replicate l.length false) a (fun j hj => by
      have hj' : j < m := by rw [htl] at hj; exact hj
      simp [hj']) (by simpa using htl) inv0 hv (by rw [htl]; exact hlex) h
  rw [htl, show m + (l.length - m) = l.length by omega] at H
  have := wpAny_of_N _ _ _ _ H
  simpa using this
end
end Go.Proofs.Ytlggcfeclbcfaaa
