/-
  A region that draws its order: what holds after each operation whatever came before it. Proved of every program. Conditions: stated at each theorem.
-/
import Derived.Test.YtdmnkmdlochogabRc
import Derived.Orders
import Derived.RegionTactic
namespace Go.Proofs.Ytdmnkmdlochogab
open Go.RowKit Go.Sort

/-- Each operation waits only for operations that stand ahead of it in the text. -/
def depB (md : Region.Mode) (ops : Array Oper) : Bool := (List.range ops.size).all fun i => (ops[i]?.map fun o => o.after.all fun e => !Region.binds md e || decide (e.on < i)).getD true
theorem depB_at {md : Region.Mode} {ops : Array Oper} (h : depB md ops = true) {i : Nat} {o : Oper} (ho : ops[i]? = some o) : ∀ e ∈ o.after, Region.binds md e = true → e.on < i := by
  intro e he hb
  have hi := (Array.getElem?_eq_some_iff.1 ho).1
  have h1 := List.all_eq_true.1 h i (by simpa using hi)
  rw [ho] at h1
  simp only [Option.map_some, Option.getD_some] at h1
  have h2 := Array.all_eq_true_iff_forall_mem.1 h1 e he
  rw [hb] at h2
  simpa using h2
section
variable {P : Program} {ops : Array Oper} {Q : Exit → Act → World → Prop} {md : Region.Mode}
theorem all_listed (hd : depB md ops = true) {listed : Array Bool} (hs : listed.size = ops.size) (hr : Region.ready md ops listed = []) : ∀ i, i < ops.size → listed.getD i true = true := by
  intro i
  induction i using Nat.strongRecOn with
  | _ i ih =>
    intro hi
    rcases hb : listed.getD i true with _ | _
    · exfalso
      have hm : i ∈ Region.ready md ops listed := mem_ready.2 ⟨hb, ops[i], Array.getElem?_eq_getElem hi, fun e he hbd => by
        have hlt := depB_at hd (Array.getElem?_eq_getElem hi) e he hbd
        have h1 := ih e.on hlt (by omega)
        have hsz : e.on < listed.size := by omega
        simpa [hsz] using h1⟩
      rw [hr] at hm
      cases hm
    · rfl
theorem count_put {listed : Array Bool} {i : Nat} (h : listed.getD i true = false) : (listed.setIfInBounds i true).toList.count false + 1 = listed.toList.count false := by
  have hi : i < listed.size := by
    rcases Nat.lt_or_ge i listed.size with h1 | h1
    · exact h1
    · simp [h1] at h
  have hv : listed.toList[i]'(by simpa using hi) = false := by simpa [hi] using h
  have hc : 0 < listed.toList.count false := List.count_pos_iff.2 (by rw [← hv]; exact List.getElem_mem _)
  rw [Array.toList_setIfInBounds, List.count_set (by simpa using hi), hv]
  have e1 : ((false == false) = true) := rfl
  have e2 : ((true == false) = false) := rfl
  simp only [e1, e2, if_true, Bool.false_eq_true, if_false]
  omega
/-- **What holds at the start and stays with each operation that may come up, holds at the end, whatever the order.** -/
theorem wpAny_inv (hd : depB md ops = true) (I : Nat → Array Bool → Act → World → Prop)
    (hstep : ∀ fuel listed a w, I (fuel + 1) listed a w → ∀ i o, ops[i]? = some o → listed.getD i true = false → (∀ e ∈ o.after, Region.binds md e = true → listed.getD e.on false = true) → wpOp P ops Q i (fun a' w' => I fuel (listed.setIfInBounds i true) a' w') a w)
    (hend : ∀ fuel listed a w, I fuel listed a w → (∀ i, i < ops.size → listed.getD i false = true) → Q .normal a w) :
    ∀ (fuel : Nat) (listed : Array Bool) (a : Act) (w : World), listed.size = ops.size → listed.toList.count false = fuel → I fuel listed a w → wpAny P md ops Q fuel listed a w := by
  have hturn : ∀ listed : Array Bool, listed.size = ops.size → (∀ i, i < ops.size → listed.getD i true = true) → ∀ i, i < ops.size → listed.getD i false = true := fun listed hs h i hi => by
    have h1 := h i hi
    have h2 : i < listed.size := by omega
    simpa [h2] using h1
  intro fuel
  induction fuel with
  | zero =>
    intro listed a w hs hc hI
    have hall : ∀ i, i < ops.size → listed.getD i true = true := fun i hi => by
      rcases hb : listed.getD i true with _ | _
      · have hi' : i < listed.size := by omega
        have hv : listed.toList[i]'(by simpa using hi') = false := by simpa [hi'] using hb
        have : 0 < listed.toList.count false := List.count_pos_iff.2 (by rw [← hv]; exact List.getElem_mem _)
        omega
      · rfl
    refine ⟨?_, hend _ listed a w hI (hturn listed hs hall)⟩
    refine List.eq_nil_iff_forall_not_mem.2 fun j hj => ?_
    obtain ⟨h1, o, ho, _⟩ := mem_ready.1 hj
    rw [hall j (Array.getElem?_eq_some_iff.1 ho).1] at h1
    cases h1
  | succ fuel ih =>
    intro listed a w hs hc hI
    refine ⟨fun hr => hend _ listed a w hI (hturn listed hs (all_listed hd hs hr)), fun i hi => ?_⟩
    obtain ⟨h1, o, ho, h2⟩ := mem_ready.1 hi
    refine wpOp_mono (fun a' w' h => ih _ a' w' (by simpa using hs) ?_ h) (hstep fuel listed a w hI i o ho h1 h2)
    have := count_put h1
    omega
theorem region_inv {id : Nat} {a : Act} {w : World} (hm : P.follows .mixedOrders = true) (hd : depB .any ops = true) (I : Nat → Array Bool → Act → World → Prop)
    (hstep : ∀ fuel listed a w, I (fuel + 1) listed a w → ∀ i o, ops[i]? = some o → listed.getD i true = false → (∀ e ∈ o.after, Region.binds .any e = true → listed.getD e.on false = true) → wpOp P ops Q i (fun a' w' => I fuel (listed.setIfInBounds i true) a' w') a w)
    (hend : ∀ fuel listed a w, I fuel listed a w → (∀ i, i < ops.size → listed.getD i false = true) → Q .normal a w)
    (h : I ops.size (Array.replicate ops.size false) a w.drew) : (Code.region id ops true).wp P Q a w :=
  wp_region_any hm (wpAny_inv hd I hstep hend _ _ _ _ (by simp) (by simp) h)
end
end Go.Proofs.Ytdmnkmdlochogab
