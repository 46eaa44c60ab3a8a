/-
  A region that draws its order: plain readings ahead of one operation that makes memory, behind which all is forced. Proved of every program. Conditions: stated at each theorem.
-/
import Derived.Test.YtjekmmekkfmplaaBase
import Derived.StillTail
import Derived.OrdersHeld
namespace Go.Proofs.Ytjekmmekkfmplaa
open Go.RowKit

section
variable {P : Program} {ops : Array Oper} {Q : Exit → Act → World → Prop} {md : Region.Mode} {S : World → Prop}

/-- Operations that hand back a value or stop, and never enter a function. -/
def valueB (o : Oper) : Bool :=
  match o.op with
  | .move _ | .assign _ | .pick _ _ _ | .load _ _ | .build _ _ | .binOp _ _ _ _ _ | .unOp _ _ _ | .slice _ _ _ _ _ | .fieldAddr _ _ _ | .indexAddr _ _ _ | .index _ _ _ | .extract _ _ | .field _ _ _ | .nilCheck _ => true
  | _ => false
theorem value_of {m : Sem Value} {w w' : World} {n : Next} (h : (do pure (Next.value (← m)) : Sem Next).run P w = .ok n w') : ∃ u, n = .value u := by
  rw [Sem.run_bind] at h
  cases hr : m.run P w with
  | ok u w1 =>
    rw [hr] at h
    simp only [Result.andThen_ok, Sem.run_pure] at h
    exact ⟨u, by injection h with h1 _; exact h1.symm⟩
  | halt x w1 => rw [hr] at h; simp only [Result.andThen_halt] at h; cases h
theorem nil_run {o : Oper} {x : Operand} (hop : o.op = .nilCheck x) {ρ : Operand → Value} {w w' : World} {n : Next} (h : (execOp ρ o).run P w = .ok n w') : ∃ u, n = .value u := by
  unfold execOp at h
  rw [hop] at h
  simp only at h
  split at h
  · simp [runtimePanic, goPanic, go_sem] at h
  · simp [runtimePanic, goPanic, go_sem] at h
  · simp [runtimePanic, goPanic, go_sem] at h
  · split at h
    · simp [runtimePanic, goPanic, go_sem] at h
    · rw [Sem.run_bind] at h
      cases hp : (program : Sem Program).run P w with
      | halt x w1 => rw [hp] at h; simp only [Result.andThen_halt] at h; cases h
      | ok a w1 =>
        rw [hp, Result.andThen_ok, Sem.run_bind] at h
        revert h
        generalize hq : Sem.run P (nilAhead _ _ _ _) w1 = r
        intro h
        cases r with
        | halt x w2 => simp only [Result.andThen_halt] at h; cases h
        | ok b w2 =>
          rw [Result.andThen_ok] at h
          split at h
          · rw [Sem.run_bind] at h
            revert h
            generalize hu : Sem.run P (unsupported _) w2 = r
            intro h
            cases r with
            | halt x w3 => simp only [Result.andThen_halt] at h; cases h
            | ok b w3 =>
              simp only [Result.andThen_ok, Sem.run_pure] at h
              injection h with h1 _
              exact ⟨_, h1.symm⟩
          · simp only [Sem.run_pure] at h
            injection h with h1 _
            exact ⟨_, h1.symm⟩
    · simp only [Sem.run_pure] at h
      injection h with h1 _
      exact ⟨_, h1.symm⟩
  · simp only [Sem.run_pure] at h
    injection h with h1 _
    exact ⟨_, h1.symm⟩
theorem value_run {o : Oper} (ho : valueB o = true) {ρ : Operand → Value} {w w' : World} {n : Next} (h : (execOp ρ o).run P w = .ok n w') : ∃ u, n = .value u := by
  unfold valueB at ho
  have h0 := h
  unfold execOp at h
  split at ho
  all_goals first
    | (rename_i hop; exact nil_run hop h0)
    | (rename_i hop; rw [hop] at h; exact value_of h)
    | (rename_i hop; rw [hop] at h; simp only [Sem.run_pure] at h; injection h with h1 _; exact ⟨_, h1.symm⟩)
    | (rename_i hop; rw [hop] at h; exact value_of (m := do pure (if ← asBool (ρ _) then ρ _ else ρ _)) (by simpa using h))
    | cases ho
theorem yieldsIf_of_in {o : Oper} {v : Value} {a : Act} (ho : valueB o = true) (h : YieldsIn P ops S o v a) : YieldsIf P ops S o v a := by
  rcases h with ⟨hw, hq⟩ | h
  · refine .inl ⟨hw, fun w hS => ?_⟩
    have h1 := hq w hS
    unfold Oper.quietAt at h1
    cases hr : (execOp a.eval o).run P w with
    | ok n w' =>
      obtain ⟨u, rfl⟩ := value_run ho hr
      rw [hr] at h1
      obtain ⟨rfl, rfl⟩ := h1
      rfl
    | halt x w' => rw [hr] at h1; exact h1.elim
  · exact .inr h

def wpAnyN (P : Program) (md : Region.Mode) (ops : Array Oper) (Q : Exit → Act → World → Prop) (S : World → Prop) (n : Nat) : Nat → Array Bool → Act → World → Prop
  | 0, listed, a, w => Region.ready md ops listed = [] ∧ Q .normal a w
  | fuel + 1, listed, a, w =>
    (Region.ready md ops listed = [] → Q .normal a w) ∧
    ∀ i ∈ Region.ready md ops listed, wpOp P ops Q i (fun a' w' => (i < n → S w') ∧ wpAnyN P md ops Q S n fuel (listed.setIfInBounds i true) a' w') a w
theorem wpAny_of_N {n : Nat} : ∀ (fuel : Nat) (listed : Array Bool) (a : Act) (w : World), wpAnyN P md ops Q S n fuel listed a w → wpAny P md ops Q fuel listed a w
  | 0, _, _, _, h => h
  | fuel + 1, _, _, _, h => ⟨h.1, fun i hi => wpOp_mono (fun a' w' h' => wpAny_of_N fuel _ a' w' h'.2) (h.2 i hi)⟩
theorem wpAnyN_first {n i : Nat} {oi : Oper} {v : Value} (hi : ops[i]? = some oi) (hsel : ∀ (j : Nat) (o : Oper) cs b, ops[j]? = some o → o.op ≠ .select cs b)
    (hQ : ∀ c a w, Q (.panic c) (a.put oi.dst v) w → Q (.panic c) a w)
    (hs : Region.sinkB md ops n = true) (hc : Region.chainB md ops n = true) (hn : n < ops.size) (hin : i < n) :
    ∀ (fuel : Nat) (listed : Array Bool) (a : Act) (w : World), HeadInv md ops n listed →
      (∀ j oj, ops[j]? = some oj → j ≠ i → listed.getD j true = false → (∀ e ∈ oj.after, Region.binds md e = true → e.on ≠ i) → oi.apart ops oj = true) →
      i ∈ Region.ready md ops listed → YieldsIf P ops S oi v a → S w →
      wpAnyN P md ops Q S n fuel (listed.setIfInBounds i true) (a.put oi.dst v) w → wpAnyN P md ops Q S n (fuel + 1) listed a w := by
  intro fuel
  induction fuel with
  | zero =>
    intro listed a w _ _ hr hy hS H
    refine ⟨fun h => (by rw [h] at hr; cases hr), fun j hj => ?_⟩
    by_cases hji : j = i
    · subst hji; exact hy.wpOp hi hS ⟨fun _ => hS, H⟩
    · have := ready_mono hj hji
      rw [H.1] at this
      cases this
  | succ fuel ih =>
    intro listed a w inv hfree hr hy hS H
    refine ⟨fun h => (by rw [h] at hr; cases hr), fun j hj => ?_⟩
    by_cases hji : j = i
    · subst hji; exact hy.wpOp hi hS ⟨fun _ => hS, H⟩
    · have hun := (mem_ready.1 hr).1
      have hjn : j < n := by
        rcases Nat.lt_or_ge j n with h | h
        · exact h
        · exact absurd hj (tail_waits hs hc hn inv _ i rfl hin hun j h)
      have h1 := H.2 j (ready_mono hj hji)
      obtain ⟨hjun, oj, hoj, hall⟩ := mem_ready.1 hj
      have hnot : ∀ e ∈ oj.after, Region.binds md e = true → e.on ≠ i := fun e he hb heq => by
        have h1 := hall e he hb
        rw [heq, getD_both hun] at h1
        cases h1
      have h2 := wpOp_putIf hoj (hfree j oj hoj hji hjun hnot) (fun cs b => hsel i oi cs b hi) (fun cs b => hsel j oj cs b hoj) hQ hy h1
      have hfree' : ∀ k ok, ops[k]? = some ok → k ≠ i → (listed.setIfInBounds j true).getD k true = false →
          (∀ e ∈ ok.after, Region.binds md e = true → e.on ≠ i) → oi.apart ops ok = true := fun k ok hk hki hun hno => by
        refine hfree k ok hk hki ?_ hno
        by_cases hjk : j = k
        · subst hjk; exact hjun
        · rw [getD_set_ne true hjk] at hun; exact hun
      refine wpOp_mono (fun a' w' h3 => ⟨h3.2.1, ih (listed.setIfInBounds j true) a' w' (inv.set hj hjn) hfree' (ready_mono hr (Ne.symm hji)) h3.1 (h3.2.1 hjn) ?_⟩) h2
      rw [Array.setIfInBounds_comm _ _ hji]
      exact h3.2.2
theorem wpAnyN_of_seq {n : Nat} : ∀ (l : List Oper) (k : Nat) (listed : Array Bool) (a : Act) (w : World), n ≤ k → (∀ j, l[j]? = ops[k + j]?) →
    Region.seqB md ops l.length k listed = true → wpList P ops Q l a w → wpAnyN P md ops Q S n l.length listed a w
  | [], _, _, _, _, _, _, hB, h => ⟨by simpa [Region.seqB] using hB, h⟩
  | o :: l, k, listed, a, w, hnk, hl, hB, h => by
    have h0 : ops[k]? = some o := by simpa using (hl 0).symm
    simp only [List.length_cons, Region.seqB, Bool.and_eq_true, decide_eq_true_eq] at hB
    refine ⟨fun h1 => (by rw [hB.1] at h1; cases h1), fun i hi => ?_⟩
    rw [hB.1] at hi
    have hik : i = k := by simpa using hi
    subst hik
    have hw : wpOp P ops Q i (wpList P ops Q l) a w := by unfold wpOp; simp only [h0]; exact h
    exact wpOp_mono (fun a' w' h' => ⟨fun h => absurd h (by omega), wpAnyN_of_seq l (i + 1) _ a' w' (by omega) (fun j => by have := hl (j + 1); simpa [Nat.add_assoc, Nat.add_comm 1 j] using this) hB.2 h'⟩) hw
theorem wpAnyN_lex {n m g : Nat} (hsel : Region.noSelect ops = true) (hs : Region.sinkB md ops n = true) (hc : Region.chainB md ops n = true) (hn : n < ops.size) (hmn : m ≤ n)
    (hQ : ∀ d v c a w, Q (.panic c) (Act.put a d v) w → Q (.panic c) a w) {w : World} (hS : S w) {R : Act → Prop}
    (hR : ∀ listed a, Region.seqB md ops g m listed = true → R a → wpAnyN P md ops Q S n g listed a w) :
    ∀ (l : List Oper) (k : Nat) (listed : Array Bool) (a : Act), (∀ j, j < l.length → l[j]? = ops[k + j]?) → k + l.length = m → HeadInv md ops n listed → l.all valueB = true →
    Region.lexHead md ops g l.length k listed = true → wpQuiet P ops S R l a → wpAnyN P md ops Q S n (l.length + g) listed a w
  | [], k, listed, a, _, hk, _, _, hB, h => by
    have : k = m := by simpa using hk
    subst this
    rw [List.length_nil, Nat.zero_add]
    exact hR _ _ (by simpa [Region.lexHead] using hB) h
  | o :: l, k, listed, a, hl, hk, inv, hv, hB, h => by
    have h0 : ops[k]? = some o := by simpa using (hl 0 (by simp)).symm
    simp only [List.length_cons, Region.lexHead, Bool.and_eq_true] at hB
    obtain ⟨⟨hr, hf⟩, hB'⟩ := hB
    rw [List.all_cons, Bool.and_eq_true] at hv
    have hkn : k < n := by simp only [List.length_cons] at hk; omega
    have hr' : k ∈ Region.ready md ops listed := by simpa using hr
    have hst : qOp P ops S k (wpQuiet P ops S R l) a := by unfold qOp; simp only [h0]; exact h
    obtain ⟨v, hy, hK⟩ := yieldsIn_of_qOp h0 hst
    have H := wpAnyN_lex (g := g) hsel hs hc hn hmn hQ hS hR l (k + 1) _ _ (fun j hj => by have := hl (j + 1) (by simp; omega); simpa [Nat.add_assoc, Nat.add_comm 1 j] using this) (by simp only [List.length_cons] at hk; omega) (inv.set hr' hkn) hv.2 hB' hK
    rw [List.length_cons, show l.length + 1 + g = l.length + g + 1 by omega]
    exact wpAnyN_first h0 (Region.noSelect_spec hsel) (fun c a w => hQ o.dst v c a w) hs hc hn hkn (l.length + g) listed a w inv (Region.free_spec h0 hf) hr' (yieldsIf_of_in hv.1 hy) hS H

def midB (l : List Oper) (m : Nat) : Bool :=
  Region.noSelect l.toArray && decide (m + 1 < l.length) && Region.sinkB .any l.toArray (m + 1) && Region.chainB .any l.toArray (m + 1) && (l.take m).all valueB && Region.lexHead .any l.toArray (l.length - m) m 0 (Array.replicate l.length false)
/-- m plain readings, one operation that may make memory (number m; the class S must hold behind it), and what is forced behind it. -/
theorem region_mid {id : Nat} {a : Act} {w W : World} {l : List Oper} (m : Nat) (hm : P.follows .mixedOrders = true) (hB : midB l m = true) (hW : Below W.heap.size W w)
    (hQ : ∀ d v c a w, Q (.panic c) (Act.put a d v) w → Q (.panic c) a w)
    (h : wpQuiet P l.toArray (fun w' => ∃ x : Later W, w' = x.at_) (fun a' => ∀ w', (∃ x : Later W, w' = x.at_) →
      wpOp P l.toArray Q m (fun a'' w'' => (∃ x : Later W, w'' = x.at_) ∧ wpList P l.toArray Q (l.drop (m + 1)) a'' w'') a' w') (l.take m) a) : (Code.region id l.toArray true).wp P Q a w := by
  simp only [midB, Bool.and_eq_true, decide_eq_true_eq] at hB
  obtain ⟨⟨⟨⟨⟨hsel, hn⟩, hs⟩, hc⟩, hv⟩, hlex⟩ := hB
  have htl : (l.take m).length = m := by simp; omega
  have hdl : (l.drop (m + 1)).length = l.length - (m + 1) := by simp
  have inv0 : HeadInv .any l.toArray (m + 1) (Array.replicate l.length false) :=
    ⟨by simp, fun j oj _ hl => (by rw [getD_replicate_false] at hl; cases hl), fun t _ ht => getD_in (by simpa using ht) (getD_replicate_false _ _)⟩
  have hS := later_now hW.drew
  refine wp_region_any hm ?_
  have H := wpAnyN_lex (md := .any) (ops := l.toArray) (n := m + 1) (m := m) (g := l.length - m) (Q := Q) hsel hs hc (by simpa using hn) (Nat.le_succ _) hQ hS
    (R := fun a' => ∀ w', (∃ x : Later W, w' = x.at_) → wpOp P l.toArray Q m (fun a'' w'' => (∃ x : Later W, w'' = x.at_) ∧ wpList P l.toArray Q (l.drop (m + 1)) a'' w'') a' w')
    (fun listed a' hq hr => by
      rw [show l.length - m = (l.drop (m + 1)).length + 1 by omega] at hq ⊢
      simp only [Region.seqB, Bool.and_eq_true, decide_eq_true_eq] at hq
      refine ⟨fun h1 => (by rw [hq.1] at h1; cases h1), fun i hi => ?_⟩
      rw [hq.1] at hi
      have him : i = m := by simpa using hi
      subst him
      exact wpOp_mono (fun a'' w'' h' => ⟨fun _ => h'.1, wpAnyN_of_seq _ (i + 1) _ a'' w'' (Nat.le_refl _) (fun j => by simp [List.getElem?_drop]) hq.2 h'.2⟩) (hr _ hS))
    (l.take m) 0 (Array.replicate l.length false) a (fun j hj => by
      have hj' : j < m := by rw [htl] at hj; exact hj
      simp [hj']) (by simpa using htl) inv0 hv (by rw [htl]; exact hlex) h
  rw [htl, show m + (l.length - m) = l.length by omega] at H
  have := wpAny_of_N _ _ _ _ H
  simpa using this
end
end Go.Proofs.Ytjekmmekkfmplaa
