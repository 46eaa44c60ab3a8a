/-
  A region that draws its order: plain readings (in whatever places), operations that make memory one behind the other, and what is forced behind them. Proved of every program. Conditions: stated at the theorem.
-/
import Derived.Test.YtlggcfeclbcfaaaMid
namespace Go.Proofs.Ytlggcfeclbcfaaa
open Go.RowKit

section
variable {P : Program} {ops : Array Oper} {Q : Exit → Act → World → Prop} {md : Region.Mode} {S : World → Prop}

def seqM (md : Region.Mode) (ops : Array Oper) (g n : Nat) : List Nat → Array Bool → Bool
  | [], listed => Region.seqB md ops g n listed
  | i :: M, listed => decide (i < n) && decide (Region.ready md ops listed = [i]) && seqM md ops g n M (listed.setIfInBounds i true)
def headP (md : Region.Mode) (ops : Array Oper) (g n : Nat) (M : List Nat) : List Nat → Array Bool → Bool
  | [], listed => seqM md ops g n M listed
  | k :: R, listed => decide (k < n) && (match ops[k]? with | some o => valueB o | none => false) && (Region.ready md ops listed).contains k && Region.free md ops listed k && headP md ops g n M R (listed.setIfInBounds k true)
def picks (l : List Oper) : List Nat → List Oper
  | [] => []
  | k :: R => match l[k]? with | some o => o :: picks l R | none => picks l R
def wpMem (P : Program) (ops : Array Oper) (Q : Exit → Act → World → Prop) (S : World → Prop) (K : Act → World → Prop) : List Nat → Act → World → Prop
  | [], a, w => K a w
  | i :: M, a, w => wpOp P ops Q i (fun a' w' => S w' ∧ wpMem P ops Q S K M a' w') a w
theorem wpAnyN_mem {l : List Oper} {n : Nat} (hl : ops = l.toArray) : ∀ (M : List Nat) (listed : Array Bool) (a : Act) (w : World), seqM md ops (l.drop n).length n M listed = true →
    wpMem P ops Q S (wpList P ops Q (l.drop n)) M a w → wpAnyN P md ops Q S n (M.length + (l.drop n).length) listed a w
  | [], listed, a, w, hB, h => by
    rw [List.length_nil, Nat.zero_add]
    exact wpAnyN_of_seq _ n _ a w (Nat.le_refl _) (fun j => by rw [hl]; simp [List.getElem?_drop]) hB h
  | i :: M, listed, a, w, hB, h => by
    simp only [seqM, Bool.and_eq_true, decide_eq_true_eq] at hB
    rw [List.length_cons, show M.length + 1 + (l.drop n).length = M.length + (l.drop n).length + 1 by omega]
    refine ⟨fun h1 => (by rw [hB.1.2] at h1; cases h1), fun j hj => ?_⟩
    rw [hB.1.2] at hj
    have hji : j = i := by simpa using hj
    subst hji
    exact wpOp_mono (fun a' w' h' => ⟨fun _ => h'.1, wpAnyN_mem hl M _ a' w' hB.2 h'.2⟩) h
theorem wpAnyN_perm {l : List Oper} {n : Nat} {M : List Nat} (hl : ops = l.toArray) (hsel : Region.noSelect ops = true) (hs : Region.sinkB md ops n = true) (hc : Region.chainB md ops n = true) (hn : n < ops.size)
    (hQ : ∀ d v c a w, Q (.panic c) (Act.put a d v) w → Q (.panic c) a w) {w : World} (hS : S w) :
    ∀ (R : List Nat) (listed : Array Bool) (a : Act), HeadInv md ops n listed → headP md ops (l.drop n).length n M R listed = true →
    wpQuiet P ops S (fun a' => ∀ w', S w' → wpMem P ops Q S (wpList P ops Q (l.drop n)) M a' w') (picks l R) a → wpAnyN P md ops Q S n (R.length + (M.length + (l.drop n).length)) listed a w
  | [], listed, a, _, hB, h => by
    rw [List.length_nil, Nat.zero_add]
    exact wpAnyN_mem hl M listed a w hB (h w hS)
  | k :: R, listed, a, inv, hB, h => by
    simp only [headP, Bool.and_eq_true, decide_eq_true_eq] at hB
    obtain ⟨⟨⟨⟨hkn, hv⟩, hr⟩, hf⟩, hB'⟩ := hB
    rcases h0 : ops[k]? with _ | o
    · rw [h0] at hv; cases hv
    rw [h0] at hv
    have hlk : l[k]? = some o := by rw [hl] at h0; simpa using h0
    have hr' : k ∈ Region.ready md ops listed := by simpa using hr
    simp only [picks, hlk] at h
    have hst : qOp P ops S k (wpQuiet P ops S (fun a' => ∀ w', S w' → wpMem P ops Q S (wpList P ops Q (l.drop n)) M a' w') (picks l R)) a := by unfold qOp; simp only [h0]; exact h
    obtain ⟨v, hy, hK⟩ := yieldsIn_of_qOp h0 hst
    have H := wpAnyN_perm hl hsel hs hc hn hQ hS R _ _ (inv.set hr' hkn) hB' hK
    rw [List.length_cons, show R.length + 1 + (M.length + (l.drop n).length) = R.length + (M.length + (l.drop n).length) + 1 by omega]
    exact wpAnyN_first h0 (Region.noSelect_spec hsel) (fun c a w => hQ o.dst v c a w) hs hc hn hkn _ listed a w inv (Region.free_spec h0 hf) hr' (yieldsIf_of_in hv hy) hS H
def permB (l : List Oper) (n : Nat) (R M : List Nat) : Bool :=
  Region.noSelect l.toArray && decide (n < l.length) && Region.sinkB .any l.toArray n && Region.chainB .any l.toArray n && decide (R.length + (M.length + (l.drop n).length) = l.length) && headP .any l.toArray (l.drop n).length n M R (Array.replicate l.length false)
/-- The readings R first, then the operations M (the class S must hold behind each), then what is forced from number n on. -/
theorem region_perm {id : Nat} {a : Act} {w W : World} {l : List Oper} (n : Nat) (R M : List Nat) (hm : P.follows .mixedOrders = true) (hB : permB l n R M = true) (hW : Below W.heap.size W w)
    (hQ : ∀ d v c a w, Q (.panic c) (Act.put a d v) w → Q (.panic c) a w)
    (h : wpQuiet P l.toArray (fun w' => ∃ x : Later W, w' = x.at_) (fun a' => ∀ w', (∃ x : Later W, w' = x.at_) →
      wpMem P l.toArray Q (fun w' => ∃ x : Later W, w' = x.at_) (wpList P l.toArray Q (l.drop n)) M a' w') (picks l R) a) : (Code.region id l.toArray true).wp P Q a w := by
  simp only [permB, Bool.and_eq_true, decide_eq_true_eq] at hB
  obtain ⟨⟨⟨⟨⟨hsel, hn⟩, hs⟩, hc⟩, hlen⟩, hhead⟩ := hB
  have inv0 : HeadInv .any l.toArray n (Array.replicate l.length false) :=
    ⟨by simp, fun j oj _ hl => (by rw [getD_replicate_false] at hl; cases hl), fun t _ ht => getD_in (by simpa using ht) (getD_replicate_false _ _)⟩
  have hS := later_now hW.drew
  refine wp_region_any hm ?_
  have H := wpAnyN_perm (md := .any) (Q := Q) (M := M) rfl hsel hs hc (by simpa using hn) hQ hS R (Array.replicate l.length false) a inv0 hhead h
  rw [hlen] at H
  have := wpAny_of_N _ _ _ _ H
  simpa using this

/-! ### Where two operations that make memory may come in either order: the readings first, then step by step -/
def headR (md : Region.Mode) (ops : Array Oper) (n : Nat) : List Nat → Array Bool → Bool
  | [], _ => true
  | k :: R, listed => decide (k < n) && (match ops[k]? with | some o => valueB o | none => false) && (Region.ready md ops listed).contains k && Region.free md ops listed k && headR md ops n R (listed.setIfInBounds k true)
def listR (listed : Array Bool) : List Nat → Array Bool
  | [] => listed
  | k :: R => listR (listed.setIfInBounds k true) R
theorem wpAnyN_reads {l : List Oper} {n g : Nat} (hl : ops = l.toArray) (hsel : Region.noSelect ops = true) (hs : Region.sinkB md ops n = true) (hc : Region.chainB md ops n = true) (hn : n < ops.size)
    (hQ : ∀ d v c a w, Q (.panic c) (Act.put a d v) w → Q (.panic c) a w) {w : World} (hS : S w) :
    ∀ (R : List Nat) (listed : Array Bool) (a : Act), HeadInv md ops n listed → headR md ops n R listed = true →
    wpQuiet P ops S (fun a' => ∀ w', S w' → wpAnyN P md ops Q S n g (listR listed R) a' w') (picks l R) a → wpAnyN P md ops Q S n (R.length + g) listed a w
  | [], listed, a, _, _, h => by
    rw [List.length_nil, Nat.zero_add]
    exact h w hS
  | k :: R, listed, a, inv, hB, h => by
    simp only [headR, Bool.and_eq_true, decide_eq_true_eq] at hB
    obtain ⟨⟨⟨⟨hkn, hv⟩, hr⟩, hf⟩, hB'⟩ := hB
    rcases h0 : ops[k]? with _ | o
    · rw [h0] at hv; cases hv
    rw [h0] at hv
    have hlk : l[k]? = some o := by rw [hl] at h0; simpa using h0
    have hr' : k ∈ Region.ready md ops listed := by simpa using hr
    simp only [picks, hlk, listR] at h
    have hst : qOp P ops S k (wpQuiet P ops S (fun a' => ∀ w', S w' → wpAnyN P md ops Q S n g (listR (listed.setIfInBounds k true) R) a' w') (picks l R)) a := by unfold qOp; simp only [h0]; exact h
    obtain ⟨v, hy, hK⟩ := yieldsIn_of_qOp h0 hst
    have H := wpAnyN_reads hl hsel hs hc hn hQ hS R _ _ (inv.set hr' hkn) hB' hK
    rw [List.length_cons, show R.length + 1 + g = R.length + g + 1 by omega]
    exact wpAnyN_first h0 (Region.noSelect_spec hsel) (fun c a w => hQ o.dst v c a w) hs hc hn hkn _ listed a w inv (Region.free_spec h0 hf) hr' (yieldsIf_of_in hv hy) hS H
theorem wpAnyN_one {n g i : Nat} {listed : Array Bool} {a : Act} {w : World} (hr : Region.ready md ops listed = [i]) (h : wpOp P ops Q i (fun a' w' => S w' ∧ wpAnyN P md ops Q S n g (listed.setIfInBounds i true) a' w') a w) : wpAnyN P md ops Q S n (g + 1) listed a w := by
  refine ⟨fun h1 => (by rw [hr] at h1; cases h1), fun j hj => ?_⟩
  rw [hr] at hj
  obtain rfl : j = i := by simpa using hj
  exact wpOp_mono (fun a' w' h' => ⟨fun _ => h'.1, h'.2⟩) h
theorem wpAnyN_two {n g i i' : Nat} {listed : Array Bool} {a : Act} {w : World} (hr : Region.ready md ops listed = [i, i']) (h : wpOp P ops Q i (fun a' w' => S w' ∧ wpAnyN P md ops Q S n g (listed.setIfInBounds i true) a' w') a w)
    (h' : wpOp P ops Q i' (fun a' w' => S w' ∧ wpAnyN P md ops Q S n g (listed.setIfInBounds i' true) a' w') a w) : wpAnyN P md ops Q S n (g + 1) listed a w := by
  refine ⟨fun h1 => (by rw [hr] at h1; cases h1), fun j hj => ?_⟩
  rw [hr] at hj
  have hj' : j = i ∨ j = i' := by simpa using hj
  rcases hj' with rfl | rfl
  · exact wpOp_mono (fun a' w' h' => ⟨fun _ => h'.1, h'.2⟩) h
  · exact wpOp_mono (fun a' w' h' => ⟨fun _ => h'.1, h'.2⟩) h'
theorem wpAnyN_end {n g : Nat} {l : List Oper} {listed : Array Bool} {a : Act} {w : World} (hl : ops = l.toArray) (hB : Region.seqB md ops (l.drop n).length n listed = true) (hg : (l.drop n).length = g) (h : wpList P ops Q (l.drop n) a w) : wpAnyN P md ops Q S n g listed a w := by
  subst hg
  exact wpAnyN_of_seq _ n _ a w (Nat.le_refl _) (fun j => by rw [hl]; simp [List.getElem?_drop]) hB h
def permRB (l : List Oper) (n : Nat) (R : List Nat) : Bool :=
  Region.noSelect l.toArray && decide (n < l.length) && Region.sinkB .any l.toArray n && Region.chainB .any l.toArray n && decide (R.length ≤ l.length) && headR .any l.toArray n R (Array.replicate l.length false)
theorem region_reads {id : Nat} {a : Act} {w W : World} {l : List Oper} (n g : Nat) (R : List Nat) (hm : P.follows .mixedOrders = true) (hB : permRB l n R = true) (hg : R.length + g = l.length) (hW : Below W.heap.size W w)
    (hQ : ∀ d v c a w, Q (.panic c) (Act.put a d v) w → Q (.panic c) a w)
    (h : wpQuiet P l.toArray (fun w' => ∃ x : Later W, w' = x.at_) (fun a' => ∀ w', (∃ x : Later W, w' = x.at_) →
      wpAnyN P .any l.toArray Q (fun w' => ∃ x : Later W, w' = x.at_) n g (listR (Array.replicate l.length false) R) a' w') (picks l R) a) : (Code.region id l.toArray true).wp P Q a w := by
  simp only [permRB, Bool.and_eq_true, decide_eq_true_eq] at hB
  obtain ⟨⟨⟨⟨⟨hsel, hn⟩, hs⟩, hc⟩, _⟩, hhead⟩ := hB
  have inv0 : HeadInv .any l.toArray n (Array.replicate l.length false) :=
    ⟨by simp, fun j oj _ hl => (by rw [getD_replicate_false] at hl; cases hl), fun t _ ht => getD_in (by simpa using ht) (getD_replicate_false _ _)⟩
  have hS := later_now hW.drew
  refine wp_region_any hm ?_
  have H := wpAnyN_reads (md := .any) (Q := Q) (g := g) rfl hsel hs hc (by simpa using hn) hQ hS R (Array.replicate l.length false) a inv0 hhead h
  rw [hg] at H
  have := wpAny_of_N _ _ _ _ H
  simpa using this
end
end Go.Proofs.Ytlggcfeclbcfaaa
