/-
  A region that draws its order: plain readings (in whatever places), operations that make memory one behind the other, and what is forced behind them. Proved of every program. Conditions: stated at the theorem.
-/
import Derived.Test.YtjekmmekkfmplaaMid
namespace Go.Proofs.Ytjekmmekkfmplaa
open Go.RowKit

section
variable {P : Program} {ops : Array Oper} {Q : Exit → Act → World → Prop} {md : Region.Mode} {S : World → Prop}

def seqM (md : Region.Mode) (ops : Array Oper) (g n : Nat) : List Nat → Array Bool → Bool
  | [], listed => Region.seqB md ops g n listed
  | i :: M, listed => decide (i < n) && decide (Region.ready md ops listed = [i]) && seqM md ops g n M (listed.setIfInBounds i true)
def headP (md : Region.Mode) (ops : Array Oper) (g n : Nat) (M : List Nat) : List Nat → Array Bool → Bool
  | [], listed => seqM md ops g n M listed
  | k :: R, listed => decide (k < n) && (match ops[k]? with | some o => valueB o | none => false) && (Region.ready md ops listed).contains k && Region.free md ops listed k && headP md ops g n M R (listed.setIfInBounds k true)
def picks (l : List Oper) : List Nat → List Oper
  | [] => []
  | k :: R => match l[k]? with | some o => o :: picks l R | none => picks l R
def wpMem (P : Program) (ops : Array Oper) (Q : Exit → Act → World → Prop) (S : World → Prop) (K : Act → World → Prop) : List Nat → Act → World → Prop
  | [], a, w => K a w
  | i :: M, a, w => wpOp P ops Q i (fun a' w' => S w' ∧ wpMem P ops Q S K M a' w') a w
theorem wpAnyN_mem {l : List Oper} {n : Nat} (hl : ops = l.toArray) : ∀ (M : List Nat) (listed : Array Bool) (a : Act) (w : World), seqM md ops (l.drop n).length n M listed = true →
    wpMem P ops Q S (wpList P ops Q (l.drop n)) M a w → wpAnyN P md ops Q S n (M.length + (l.drop n).length) listed a w
  | [], listed, a, w, hB, h => by
    rw [List.length_nil, Nat.zero_add]
    exact wpAnyN_of_seq _ n _ a w (Nat.le_refl _) (fun j => by rw [hl]; simp [List.getElem?_drop]) hB h
  | i :: M, listed, a, w, hB, h => by
    simp only [seqM, Bool.and_eq_true, decide_eq_true_eq] at hB
    rw [List.length_cons, show M.length + 1 + (l.drop n).length = M.length + (l.drop n).length + 1 by omega]
    refine ⟨fun h1 => (by rw [hB.1.2] at h1; cases h1), fun j hj => ?_⟩
    rw [hB.1.2] at hj
    have hji : j = i := by simpa using hj
    subst hji
    exact wpOp_mono (fun a' w' h' => ⟨fun _ => h'.1, wpAnyN_mem hl M _ a' w' hB.2 h'.2⟩) h
theorem wpAnyN_perm {l : List Oper} {n : Nat} {M : List Nat} (hl : ops = l.toArray) (hsel : Region.noSelect ops = true) (hs : Region.sinkB md ops n = true) (hc : Region.chainB md ops n = true) (hn : n < ops.size)
    (hQ : ∀ d v c a w, Q (.panic c) (Act.put a d v) w → Q (.panic c) a w) {w : World} (hS : S w) :
    ∀ (R : List Nat) (listed : Array Bool) (a : Act), HeadInv md ops n listed → headP md ops (l.drop n).length n M R listed = true →
    wpQuiet P ops S (fun a' => ∀ w', S w' → wpMem P ops Q S (wpList P ops Q (l.drop n)) M a' w') (picks l R) a → wpAnyN P md ops Q S n (R.length + (M.length + (l.drop n).length)) listed a w
  | [], listed, a, _, hB, h => by
    rw [List.length_nil, Nat.zero_add]
    exact wpAnyN_mem hl M listed a w hB (h w hS)
  | k :: R, listed, a, inv, hB, h => by
    simp only [headP, Bool.and_eq_true, decide_eq_true_eq] at hB
    obtain ⟨⟨⟨⟨hkn, hv⟩, hr⟩, hf⟩, hB'⟩ := hB
    rcases h0 : ops[k]? with _ | o
    · rw [h0] at hv; cases hv
    rw [h0] at hv
    have hlk : l[k]? = some o := by rw [hl] at h0; simpa using h0
    have hr' : k ∈ Region.ready md ops listed := by simpa using hr
    simp only [picks, hlk] at h
    have hst : qOp P ops S k (wpQuiet P ops S (fun a' => ∀ w', S w' → wpMem P ops Q S (wpList P ops Q (l.drop n)) M a' w') (picks l R)) a := by unfold qOp; simp only [h0]; exact h
    obtain ⟨v, hy, hK⟩ := yieldsIn_of_qOp h0 hst
    have H := wpAnyN_perm hl hsel hs hc hn hQ hS R _ _ (inv.set hr' hkn) hB' hK
    rw [List.length_cons, show R.length + 1 + (M.length + (l.drop n).length) = R.length + (M.length + (l.drop n).length) + 1 by omega]
    exact wpAnyN_first h0 (Region.noSelect_spec hsel) (fun c a w => hQ o.dst v c a w) hs hc hn hkn _ listed a w inv (Region.free_spec h0 hf) hr' (yieldsIf_of_in hv hy) hS H
def permB (l : List Oper) (n : Nat) (R M : List Nat) : Bool :=
  Region.noSelect l.toArray && decide (n < l.length) && Region.sinkB .any l.toArray n && Region.chainB .any l.toArray n && decide (R.length + (M.length + (l.drop n).length) = l.length) && headP .any l.toArray (l.drop n).length n M R (Array.replicate l.length false)
/-- The readings R first, then the operations M (the class S must hold behind each), then what is forced from number n on. -/
theorem region_perm {id : Nat} {a : Act} {w W : World} {l : List Oper} (n : Nat) (R M : List Nat) (hm : P.follows .mixedOrders = true) (hB : permB l n R M = true) (hW : Below W.heap.size W w)
    (hQ : ∀ d v c a w, Q (.panic c) (Act.put a d v) w → Q (.panic c) a w)
    (h : wpQuiet P l.toArray (fun w' => ∃ x : Later W, w' = x.at_) (fun a' => ∀ w', (∃ x : Later W, w' = x.at_) →
      wpMem P l.toArray Q (fun w' => ∃ x : Later W, w' = x.at_) (wpList P l.toArray Q (l.drop n)) M a' w') (picks l R) a) : (Code.region id l.toArray true).wp P Q a w := by
  simp only [permB, Bool.and_eq_true, decide_eq_true_eq] at hB
  obtain ⟨⟨⟨⟨⟨hsel, hn⟩, hs⟩, hc⟩, hlen⟩, hhead⟩ := hB
  have inv0 : HeadInv .any l.toArray n (Array.replicate l.length false) :=
    ⟨by simp, fun j oj _ hl => (by rw [getD_replicate_false] at hl; cases hl), fun t _ ht => getD_in (by simpa using ht) (getD_replicate_false _ _)⟩
  have hS := later_now hW.drew
  refine wp_region_any hm ?_
  have H := wpAnyN_perm (md := .any) (Q := Q) (M := M) rfl hsel hs hc (by simpa using hn) hQ hS R (Array.replicate l.length false) a inv0 hhead h
  rw [hlen] at H
  have := wpAny_of_N _ _ _ _ H
  simpa using this

/-! ### Where two operations that make memory may come in either order: the readings first, then step by step -/
def headR (md : Region.Mode) (ops : Array Oper) (n : Nat) : List Nat → Array Bool → Bool
  | [], _ => true
  | k :: R, listed => decide (k < n) && (match ops[k]? with | some o => valueB o | none => false) && (Region.ready md ops listed).contains k && Region.free md ops listed k && headR md ops n R (listed.setIfInBounds k true)
def listR (listed : Array Bool) : List Nat → Array Bool
  | [] => listed
  | k :: R => listR (listed.setIfInBounds k true) R
theorem wpAnyN_reads {l : List Oper} {n g : Nat} (hl : ops = l.toArray) (hsel : Region.noSelect ops = true) (hs : Region.sinkB md ops n = true) (hc : Region.chainB md ops n = true) (hn : n < ops.size)
    (hQ : ∀ d v c a w, Q (.panic c) (Act.put a d v) w → Q (.panic c) a w) {w : World} (hS : S w) :
    ∀ (R : List Nat) (listed : Array Bool) (a : Act), HeadInv md ops n listed → headR md ops n R listed = true →
    wpQuiet P ops S (fun a' => ∀ w', S w' → wpAnyN P md ops Q S n g (listR listed R) a' w') (picks l R) a → wpAnyN P md ops Q S n (R.length + g) listed a w
  | [], listed, a, _, _, h => by
    rw [List.length_nil, Nat.zero_add]
    exact h w hS
  | k :: R, listed, a, inv, hB, h => by
    simp only [headR, Bool.and_eq_true, decide_eq_true_eq] at hB
    obtain ⟨⟨⟨⟨hkn, hv⟩, hr⟩, hf⟩, hB'⟩ := hB
    rcases h0 : ops[k]? with _ | o
    · rw [h0] at hv; cases hv
    rw [h0] at hv
    have hlk : l[k]? = some o := by rw [hl] at h0; simpa using h0
    have hr' : k ∈ Region.ready md ops listed := by simpa using hr
    simp only [picks, hlk, listR] at h
    have hst : qOp P ops S k (wpQuiet P ops S (fun a' => ∀ w', S w' → wpAnyN P md ops Q S n g (listR (listed.setIfInBounds k true) R) a' w') (picks l R)) a := by unfold qOp; simp only [h0]; exact h
    obtain ⟨v, hy, hK⟩ := yieldsIn_of_qOp h0 hst
    have H := wpAnyN_reads hl hsel hs hc hn hQ hS R _ _ (inv.set hr' hkn) hB' hK
    rw [List.length_cons, show R.length + 1 + g = R.length + g + 1 by omega]
    exact wpAnyN_first h0 (Region.noSelect_spec hsel) (fun c a w => hQ o.dst v c a w) hs hc hn hkn _ listed a w inv (Region.free_spec h0 hf) hr' (yieldsIf_of_in hv hy) hS H
theorem wpAnyN_one {n g i : Nat} {listed : Array Bool} {a : Act} {w : World} (hr : Region.ready md ops listed = [i]) (h : wpOp P ops Q i (fun a' w' => S w' ∧ wpAnyN P md ops Q S n g (listed.setIfInBounds i true) a' w') a w) : wpAnyN P md ops Q S n (g + 1) listed a w := by
  refine ⟨fun h1 => (by rw [hr] at h1; cases h1), fun j hj => ?_⟩
  rw [hr] at hj
  obtain rfl : j = i := by simpa using hj
  exact wpOp_mono (fun a' w' h' => ⟨fun _ => h'.1, h'.2⟩) h
theorem wpAnyN_two {n g i i' : Nat} {listed : Array Bool} {a : Act} {w : World} (hr : Region.ready md ops listed = [i, i']) (h : wpOp P ops Q i (fun a' w' => S w' ∧ wpAnyN P md ops Q S n g (listed.setIfInBounds i true) a' w') a w)
    (h' : wpOp P ops Q i' (fun a' w' => S w' ∧ wpAnyN P md ops Q S n g (listed.setIfInBounds i' true) a' w') a w) : wpAnyN P md ops Q S n (g + 1) listed a w := by
  refine ⟨fun h1 => (by rw [hr] at h1; cases h1), fun j hj => ?_⟩
  rw [hr] at hj
  have hj' : j = i ∨ j = i' := by simpa using hj
  rcases hj' with rfl | rfl
  · exact wpOp_mono (fun a' w' h' => ⟨fun _ => h'.1, h'.2⟩) h
  · exact wpOp_mono (fun a' w' h' => ⟨fun _ => h'.1, h'.2⟩) h'
theorem wpAnyN_end {n g : Nat} {l : List Oper} {listed : Array Bool} {a : Act} {w : World} (hl : ops = l.toArray) (hB : Region.seqB md ops (l.drop n).length n listed = true) (hg : (l.drop n).length = g) (h : wpList P ops Q (l.drop n) a w) : wpAnyN P md ops Q S n g listed a w := by
  subst hg
  exact wpAnyN_of_seq _ n _ a w (Nat.le_refl _) (fun j => by rw [hl]; simp [List.getElem?_drop]) hB h
def permRB (l : List Oper) (n : Nat) (R : List Nat) : Bool :=
  Region.noSelect l.toArray && decide (n < l.length) && Region.sinkB .any l.toArray n && Region.chainB .any l.toArray n && decide (R.length ≤ l.length) && headR .any l.toArray n R (Array.replicate l.length false)
theorem region_reads {id : Nat} {a : Act} {w W : World} {l : List Oper} (n g : Nat) (R : List Nat) (hm : P.follows .mixedOrders = true) (hB : permRB l n R = true) (hg : R.length + g = l.length) (hW : Below W.heap.size W w)
    (hQ : ∀ d v c a w, Q (.panic c) (Act.put a d v) w → Q (.panic c) a w)
    (h : wpQuiet P l.toArray (fun w' => ∃ x : Later W, w' = x.at_) (fun a' => ∀ w', (∃ x : Later W, w' = x.at_) →
      wpAnyN P .any l.toArray Q (fun w' => ∃ x : Later W, w' = x.at_) n g (listR (Array.replicate l.length false) R) a' w') (picks l R) a) : (Code.region id l.toArray true).wp P Q a w := by
  simp only [permRB, Bool.and_eq_true, decide_eq_true_eq] at hB
  obtain ⟨⟨⟨⟨⟨hsel, hn⟩, hs⟩, hc⟩, _⟩, hhead⟩ := hB
  have inv0 : HeadInv .any l.toArray n (Array.replicate l.length false) :=
    ⟨by simp, fun j oj _ hl => (by rw [getD_replicate_false] at hl; cases hl), fun t _ ht => getD_in (by simpa using ht) (getD_replicate_false _ _)⟩
  have hS := later_now hW.drew
  refine wp_region_any hm ?_
  have H := wpAnyN_reads (md := .any) (Q := Q) (g := g) rfl hsel hs hc (by simpa using hn) hQ hS R (Array.replicate l.length false) a inv0 hhead h
  rw [hg] at H
  have := wpAny_of_N _ _ _ _ H
  simpa using this
/-! ### Operations that make memory in a chain, and one allocation that is free -/
def spineF (md : Region.Mode) (ops : Array Oper) (g n ia : Nat) : List Nat → Array Bool → Bool
  | [], listed => decide (ia < n) && decide (Region.ready md ops listed = [ia]) && Region.seqB md ops g n (listed.setIfInBounds ia true)
  | i :: M, listed => decide (i < n) && decide (ia < n) && (decide (Region.ready md ops listed = [i, ia]) || decide (Region.ready md ops listed = [ia, i])) && spineF md ops g n ia M (listed.setIfInBounds i true) && seqM md ops g n (i :: M) (listed.setIfInBounds ia true)
def wpSp (P : Program) (ops : Array Oper) (Q : Exit → Act → World → Prop) (S : World → Prop) (ia : Nat) (K : Act → World → Prop) : List Nat → Act → World → Prop
  | [], a, w => wpOp P ops Q ia (fun a' w' => S w' ∧ K a' w') a w
  | i :: M, a, w => wpOp P ops Q i (fun a' w' => S w' ∧ wpSp P ops Q S ia K M a' w') a w ∧ wpOp P ops Q ia (fun a' w' => S w' ∧ wpMem P ops Q S K (i :: M) a' w') a w
theorem wpAnyN_spine {l : List Oper} {n ia : Nat} (hl : ops = l.toArray) : ∀ (M : List Nat) (g : Nat) (listed : Array Bool) (a : Act) (w : World), g = M.length + (l.drop n).length + 1 → spineF md ops (l.drop n).length n ia M listed = true →
    wpSp P ops Q S ia (wpList P ops Q (l.drop n)) M a w → wpAnyN P md ops Q S n g listed a w
  | [], g, listed, a, w, hg, hB, h => by
    simp only [spineF, Bool.and_eq_true, decide_eq_true_eq] at hB
    simp only [List.length_nil, Nat.zero_add] at hg
    rw [hg]
    exact wpAnyN_one hB.1.2 (wpOp_mono (fun a' w' h' => ⟨h'.1, wpAnyN_end hl hB.2 rfl h'.2⟩) h)
  | i :: M, g, listed, a, w, hg, hB, h => by
    rw [spineF] at hB
    simp only [Bool.and_eq_true, Bool.or_eq_true, decide_eq_true_eq] at hB
    simp only [List.length_cons] at hg
    have h1 := wpOp_mono (fun a' w' h' => And.intro h'.1 (wpAnyN_spine hl M (M.length + (l.drop n).length + 1) _ a' w' rfl hB.1.2 h'.2)) h.1
    have h2 := wpOp_mono (fun a' w' h' => And.intro h'.1 (wpAnyN_mem hl (i :: M) _ a' w' hB.2 h'.2)) h.2
    rw [List.length_cons, show M.length + 1 + (l.drop n).length = M.length + (l.drop n).length + 1 by omega] at h2
    rw [hg, show M.length + 1 + (l.drop n).length + 1 = (M.length + (l.drop n).length + 1) + 1 by omega]
    rcases hB.1.1.2 with hr | hr
    · exact wpAnyN_two hr h1 h2
    · exact wpAnyN_two hr h2 h1
/-! ### An operation whose value no world turns may come first -/
def invB (md : Region.Mode) (ops : Array Oper) (n : Nat) (listed : Array Bool) : Bool :=
  decide (listed.size = ops.size) && (List.range ops.size).all (fun j => !(listed.getD j false) || (match ops[j]? with | some oj => oj.after.all (fun e => !(Region.binds md e) || listed.getD e.on false) | none => true)) && (List.range ops.size).all (fun t => decide (t < n) || !(listed.getD t true))
theorem headInv_of {n : Nat} {listed : Array Bool} (h : invB md ops n listed = true) : HeadInv md ops n listed := by
  simp only [invB, Bool.and_eq_true, decide_eq_true_eq] at h
  refine ⟨h.1.1, fun j oj hj hl e he hb => ?_, fun t ht ht' => ?_⟩
  · have h1 := List.all_eq_true.1 h.1.2 j (by simpa using (Array.getElem?_eq_some_iff.1 hj).1)
    rw [hl, hj] at h1
    simp only [Bool.not_true, Bool.false_or] at h1
    have h2 := Array.all_eq_true_iff_forall_mem.1 h1 e he
    rw [hb] at h2
    simpa using h2
  · have h1 := List.all_eq_true.1 h.2 t (by simpa using ht')
    have h2 : decide (t < n) = false := decide_eq_false (by omega)
    rw [h2] at h1
    simpa using h1
def pureB (md : Region.Mode) (ops : Array Oper) (n : Nat) (listed : Array Bool) (i : Nat) : Bool :=
  Region.noSelect ops && Region.sinkB md ops n && Region.chainB md ops n && decide (n < ops.size) && decide (i < n) && (match ops[i]? with | some o => o.guard.isNone | none => false) && (Region.ready md ops listed).contains i && Region.free md ops listed i && invB md ops n listed
theorem wpAnyN_pure {n g i : Nat} {listed : Array Bool} {a : Act} {w : World} {oi : Oper} (v : Value) (hB : pureB md ops n listed i = true) (h0 : ops[i]? = some oi) (hr : ∀ w, (execOp a.eval oi).run P w = .ok (.value v) w)
    (hQ : ∀ d v c a w, Q (.panic c) (Act.put a d v) w → Q (.panic c) a w) (hS : S w) (H : wpAnyN P md ops Q S n g (listed.setIfInBounds i true) (a.put oi.dst v) w) : wpAnyN P md ops Q S n (g + 1) listed a w := by
  simp only [pureB, Bool.and_eq_true, decide_eq_true_eq, h0] at hB
  obtain ⟨⟨⟨⟨⟨⟨⟨⟨hsel, hs⟩, hc⟩, hn⟩, hin⟩, hg⟩, hrd⟩, hf⟩, hI⟩ := hB
  have hw : Region.wanted oi (yielded ops a.tmps) = true := by
    unfold Region.wanted
    rcases hgd : oi.guard with _ | x
    · rfl
    · rw [hgd] at hg; cases hg
  exact wpAnyN_first h0 (Region.noSelect_spec hsel) (fun c a w => hQ oi.dst v c a w) hs hc hn hin g listed a w (headInv_of hI) (Region.free_spec h0 hf) (by simpa using hrd) (.inl ⟨hw, fun w _ => hr w⟩) hS H
/-! ### What is left of a region where all that is left is quiet in a class of worlds: in an order of one's own -/
def pickB (md : Region.Mode) (ops : Array Oper) : List Nat → Array Bool → Bool
  | [], listed => decide (Region.ready md ops listed = [])
  | k :: L, listed => (match ops[k]? with | some _ => true | none => false) && (Region.ready md ops listed).contains k && Region.free md ops listed k && pickB md ops L (listed.setIfInBounds k true)
theorem wpAnyQ_pick {l : List Oper} {C : World → Prop} {Qa : Act → Prop} (hl : ops = l.toArray) (hs : Region.noSelect ops = true) : ∀ (L : List Nat) (listed : Array Bool) (a : Act), pickB md ops L listed = true → wpQuiet P ops C Qa (picks l L) a → wpAnyQ P md ops C Qa L.length listed a
  | [], listed, a, hB, h => ⟨by simpa [pickB] using hB, h⟩
  | k :: L, listed, a, hB, h => by
    simp only [pickB, Bool.and_eq_true] at hB
    obtain ⟨⟨⟨hk, hr⟩, hf⟩, hB'⟩ := hB
    rcases h0 : ops[k]? with _ | o
    · rw [h0] at hk; cases hk
    have hlk : l[k]? = some o := by rw [hl] at h0; simpa using h0
    simp only [picks, hlk] at h
    have hst : qOp P ops C k (wpQuiet P ops C Qa (picks l L)) a := by unfold qOp; simp only [h0]; exact h
    obtain ⟨v, hy, hK⟩ := yieldsIn_of_qOp h0 hst
    exact wpAnyQ_first h0 (Region.noSelect_spec hs) L.length listed a (Region.free_spec h0 hf) (by simpa using hr) hy (wpAnyQ_pick hl hs L _ _ hB' hK)
theorem wpAnyN_of_quiet {n : Nat} {C : World → Prop} {Qa : Act → Prop} (hQ : ∀ a w, C w → Qa a → Q .normal a w) (hCS : ∀ w, C w → S w) : ∀ (fuel : Nat) (listed : Array Bool) (a : Act) (w : World), C w → wpAnyQ P md ops C Qa fuel listed a → wpAnyN P md ops Q S n fuel listed a w
  | 0, _, _, _, hw, h => ⟨h.1, hQ _ _ hw h.2⟩
  | fuel + 1, _, _, _, hw, h => ⟨fun h0 => hQ _ _ hw (h.1 h0), fun i hi => wpOp_of_qOp hw (fun a' w' hw' h' => ⟨fun _ => hCS _ hw', wpAnyN_of_quiet hQ hCS fuel _ a' w' hw' h'⟩) (h.2 i hi)⟩
theorem wpAnyN_rest {l : List Oper} {n g : Nat} {listed : Array Bool} {a : Act} {w W0 : World} (L : List Nat) (hl : ops = l.toArray) (hs : Region.noSelect ops = true) (hg : L.length = g) (hB : pickB md ops L listed = true) (hb : Below W0.heap.size W0 w)
    (h : wpQuiet P ops (fun w' => ∃ x : Later w, w' = x.at_) (fun a' => ∀ w', (∃ x : Later w, w' = x.at_) → Q .normal a' w') (picks l L) a) : wpAnyN P md ops Q (fun w' => ∃ x : Later W0, w' = x.at_) n g listed a w := by
  subst hg
  refine wpAnyN_of_quiet (C := fun w' => ∃ x : Later w, w' = x.at_) (Qa := fun a' => ∀ w', (∃ x : Later w, w' = x.at_) → Q .normal a' w') (fun a' w' hw' h' => h' w' hw') ?_ _ _ _ _ (later_now (Below.refl _ _)) (wpAnyQ_pick hl hs L _ _ hB h)
  rintro w' ⟨x, rfl⟩
  exact ⟨⟨_, bthen hb x.below hb.size⟩, rfl⟩
end
end Go.Proofs.Ytjekmmekkfmplaa
