/-
  Regions that draw their order, step by step in the world as it is: operations that no world turns come first. Proved of every program. Conditions: stated at each theorem.
-/
import Derived.Test.YtjekmmekkfmplaaPq
namespace Go.Proofs.Ytjekmmekkfmplaa
open Go.RowKit Go.Sort

section
variable {P : Program} {ops : Array Oper} {Q : Exit → Act → World → Prop} {md : Region.Mode} {S : World → Prop}
theorem wpAnyN_readsW {l : List Oper} {n g : Nat} (hl : ops = l.toArray) (hsel : Region.noSelect ops = true) (hs : Region.sinkB md ops n = true) (hc : Region.chainB md ops n = true) (hn : n < ops.size)
    (hQ : ∀ d v c a w, Q (.panic c) (Act.put a d v) w → Q (.panic c) a w) {w : World} (hS : S w) :
    ∀ (R : List Nat) (listed : Array Bool) (a : Act), HeadInv md ops n listed → headR md ops n R listed = true →
    wpQuiet P ops S (fun a' => wpAnyN P md ops Q S n g (listR listed R) a' w) (picks l R) a → wpAnyN P md ops Q S n (R.length + g) listed a w
  | [], listed, a, _, _, h => by
    rw [List.length_nil, Nat.zero_add]
    exact h
  | k :: R, listed, a, inv, hB, h => by
    simp only [headR, Bool.and_eq_true, decide_eq_true_eq] at hB
    obtain ⟨⟨⟨⟨hkn, hv⟩, hr⟩, hf⟩, hB'⟩ := hB
    rcases h0 : ops[k]? with _ | o
    · rw [h0] at hv; cases hv
    rw [h0] at hv
    have hlk : l[k]? = some o := by rw [hl] at h0; simpa using h0
    have hr' : k ∈ Region.ready md ops listed := by simpa using hr
    simp only [picks, hlk, listR] at h
    have hst : qOp P ops S k (wpQuiet P ops S (fun a' => wpAnyN P md ops Q S n g (listR (listed.setIfInBounds k true) R) a' w) (picks l R)) a := by unfold qOp; simp only [h0]; exact h
    obtain ⟨v, hy, hK⟩ := yieldsIn_of_qOp h0 hst
    have H := wpAnyN_readsW hl hsel hs hc hn hQ hS R _ _ (inv.set hr' hkn) hB' hK
    rw [List.length_cons, show R.length + 1 + g = R.length + g + 1 by omega]
    exact wpAnyN_first h0 (Region.noSelect_spec hsel) (fun c a w => hQ o.dst v c a w) hs hc hn hkn _ listed a w inv (Region.free_spec h0 hf) hr' (yieldsIf_of_in hv hy) hS H
theorem region_readsW {id : Nat} {a : Act} {w : World} {l : List Oper} (n g : Nat) (R : List Nat) (hm : P.follows .mixedOrders = true) (hB : permRB l n R = true) (hg : R.length + g = l.length)
    (hQ : ∀ d v c a w, Q (.panic c) (Act.put a d v) w → Q (.panic c) a w)
    (h : wpQuiet P l.toArray (fun w' => ∃ x : InW (fun _ => True), w' = x.at_) (fun a' => wpAnyN P .any l.toArray Q (fun w' => ∃ x : InW (fun _ => True), w' = x.at_) n g (listR (Array.replicate l.length false) R) a' w.drew) (picks l R) a) : (Code.region id l.toArray true).wp P Q a w := by
  simp only [permRB, Bool.and_eq_true, decide_eq_true_eq] at hB
  obtain ⟨⟨⟨⟨⟨hsel, hn⟩, hs⟩, hc⟩, _⟩, hhead⟩ := hB
  have inv0 : HeadInv .any l.toArray n (Array.replicate l.length false) :=
    ⟨by simp, fun j oj _ hl => (by rw [getD_replicate_false] at hl; cases hl), fun t _ ht => getD_in (by simpa using ht) (getD_replicate_false _ _)⟩
  have hS : ∃ x : InW (fun _ => True), w.drew = x.at_ := ⟨⟨_, trivial⟩, rfl⟩
  refine wp_region_any hm ?_
  have H := wpAnyN_readsW (md := .any) (Q := Q) (g := g) rfl hsel hs hc (by simpa using hn) hQ hS R (Array.replicate l.length false) a inv0 hhead h
  rw [hg] at H
  have := wpAny_of_N _ _ _ _ H
  simpa using this
/-- The readings first, over the worlds behind W; then step by step in the world as it is. -/
theorem region_readsL {id : Nat} {a : Act} {w W : World} {l : List Oper} (n g : Nat) (R : List Nat) (hm : P.follows .mixedOrders = true) (hB : permRB l n R = true) (hg : R.length + g = l.length) (hW : Below W.heap.size W w)
    (hQ : ∀ d v c a w, Q (.panic c) (Act.put a d v) w → Q (.panic c) a w)
    (h : wpQuiet P l.toArray (fun w' => ∃ x : Later W, w' = x.at_) (fun a' => wpAnyN P .any l.toArray Q (fun w' => ∃ x : Later W, w' = x.at_) n g (listR (Array.replicate l.length false) R) a' w.drew) (picks l R) a) : (Code.region id l.toArray true).wp P Q a w := by
  simp only [permRB, Bool.and_eq_true, decide_eq_true_eq] at hB
  obtain ⟨⟨⟨⟨⟨hsel, hn⟩, hs⟩, hc⟩, _⟩, hhead⟩ := hB
  have inv0 : HeadInv .any l.toArray n (Array.replicate l.length false) :=
    ⟨by simp, fun j oj _ hl => (by rw [getD_replicate_false] at hl; cases hl), fun t _ ht => getD_in (by simpa using ht) (getD_replicate_false _ _)⟩
  have hS := later_now hW.drew
  refine wp_region_any hm ?_
  have H := wpAnyN_readsW (md := .any) (Q := Q) (g := g) rfl hsel hs hc (by simpa using hn) hQ hS R (Array.replicate l.length false) a inv0 hhead h
  rw [hg] at H
  have := wpAny_of_N _ _ _ _ H
  simpa using this
end
instance : Nonempty {w : World // (fun _ : World => True) w} := ⟨⟨default, trivial⟩⟩
end Go.Proofs.Ytjekmmekkfmplaa
