/-
  Regions that draw their order, in a round of a range over a function: walked as outside of one. Proved of every program. Conditions: stated at each theorem.
-/
import Derived.Test.YtjekmmekkfmplaaPerm
import Derived.OrdersIn
import Derived.RangeFuncCalls
namespace Go.Proofs.Ytjekmmekkfmplaa
open Go.RowKit

section
variable {P : Program} {ops : Array Oper} {Q : Exit → Act → World → Prop} {md : Region.Mode}
def noDefer (o : Oper) : Bool := match o.op with | .defer _ => false | _ => true
theorem noDefer_of {o : Oper} (h : noDefer o = true) : ∀ c, o.op ≠ .defer c := fun c e => by unfold noDefer at h; rw [e] at h; cases h
theorem wpOpIn_of_wpOp {i lp n : Nat} {K : Act → World → Prop} {a : Act} {w : World} (hnd : ∀ o ∈ ops.toList, noDefer o = true) (hL : ¬ LetsOut Q) (h : wpOp P ops Q i K a w) : wpOpIn (Fence.wide.inRound lp) n P ops Q i K a w := by
  unfold wpOp at h
  unfold wpOpIn
  rcases ho : ops[i]? with _ | o
  · rw [ho] at h; exact h
  rw [ho] at h
  simp only at h ⊢
  by_cases hw : Region.wanted o (yielded ops a.tmps) = true
  · rw [if_pos hw] at h ⊢
    rcases h with h | ⟨_, h⟩
    · unfold Oper.wp at h
      unfold Oper.wpIn
      refine ⟨fun _ _ => trivial, ?_⟩
      rw [Oper.semAt_eq _ _ _ (noDefer_of (hnd o (by have := Array.mem_of_getElem? ho; simpa using this)))]
      generalize (execOp a.eval o).run P w = r at h ⊢
      cases r with
      | ok x w' =>
        cases x <;> simp only [Oper.upon, Oper.uponIn] at h ⊢
        case value v => exact h
        case skip => exact h
        case defer d => exact h
        case enter f args => exact ⟨fun h => (by cases h), CallsIn.inRound lp (callsIn_wide.2 h)⟩
        case row row args =>
          refine ⟨fun h => (by cases h), fun c cs _ => ?_⟩
          obtain ⟨v, w'', hr, hs⟩ := h c cs
          exact ⟨v, w'', hr, stepsIn_wide.2 hs⟩
      | halt x w' => cases x <;> simp only [Oper.upon, Oper.uponIn] at h ⊢ <;> exact h
    · exact absurd h hL
  · rw [if_neg hw] at h ⊢
    exact ⟨fun _ _ => trivial, h⟩
theorem wpAnyIn_of_wpAny {lp n : Nat} (hnd : ∀ o ∈ ops.toList, noDefer o = true) (hL : ¬ LetsOut Q) : ∀ (fuel : Nat) (listed : Array Bool) (a : Act) (w : World), wpAny P md ops Q fuel listed a w → wpAnyIn (Fence.wide.inRound lp) n P md ops Q fuel listed a w
  | 0, _, _, _, h => h
  | fuel + 1, _, _, _, h => ⟨h.1, fun i hi => wpOpIn_mono (fun a' w' h' => wpAnyIn_of_wpAny hnd hL fuel _ a' w' h') (wpOpIn_of_wpOp hnd hL (h.2 i hi))⟩
end
theorem region_round {P : Program} {Q : Exit → Act → World → Prop} {id lp m : Nat} {a : Act} {w W : World} {l : List Oper} (n : Nat) (R M : List Nat) (hm : P.follows .mixedOrders = true) (hB : permB l n R M = true) (hW : Below W.heap.size W w) (hnd : l.all noDefer = true) (hL : ¬ LetsOut Q)
    (hQ : ∀ d v c a w, Q (.panic c) (Act.put a d v) w → Q (.panic c) a w)
    (h : wpQuiet P l.toArray (fun w' => ∃ x : Later W, w' = x.at_) (fun a' => ∀ w', (∃ x : Later W, w' = x.at_) →
      wpMem P l.toArray Q (fun w' => ∃ x : Later W, w' = x.at_) (wpList P l.toArray Q (l.drop n)) M a' w') (picks l R) a) : (Code.region id l.toArray true).wpIn (Fence.wide.inRound lp) m P Q a w := by
  simp only [permB, Bool.and_eq_true, decide_eq_true_eq] at hB
  obtain ⟨⟨⟨⟨⟨hsel, hn⟩, hs⟩, hc⟩, hlen⟩, hhead⟩ := hB
  have inv0 : HeadInv .any l.toArray n (Array.replicate l.length false) :=
    ⟨by simp, fun j oj _ hl => (by rw [getD_replicate_false] at hl; cases hl), fun t _ ht => getD_in (by simpa using ht) (getD_replicate_false _ _)⟩
  have hS := later_now hW.drew
  refine wpIn_region_any hm (wpAnyIn_of_wpAny (fun o ho => List.all_eq_true.1 hnd o (by simpa using ho)) hL _ _ _ _ ?_)
  have H := wpAnyN_perm (md := .any) (Q := Q) (M := M) rfl hsel hs hc (by simpa using hn) hQ hS R (Array.replicate l.length false) a inv0 hhead h
  rw [hlen] at H
  have := wpAny_of_N _ _ _ _ H
  simpa using this
end Go.Proofs.Ytjekmmekkfmplaa
