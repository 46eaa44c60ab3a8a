/-
  A region that draws its order in the middle of a function: its slots' values as predicates, the world by what stays. Conditions: stated at each theorem.
-/
import Derived.Test.YtdmnkmdlochogabRj
namespace Go.Proofs.Ytdmnkmdlochogab
open Go.RowKit Go.Sort
set_option linter.unusedVariables false

def planM (N : Nat) (dst : List (Option Nat)) : Bool :=
  (List.range dst.length).all fun i => match (dst[i]?).bind id with
    | none => true
    | some d => decide (d < N) && (List.range dst.length).all fun j => j == i || (match (dst[j]?).bind id with | none => true | some d' => d' != d)
theorem planM_at {N : Nat} {dst : List (Option Nat)} (h : planM N dst = true) {i d : Nat} (hi : dst[i]? = some (some d)) :
    d < N ∧ ∀ j d', dst[j]? = some (some d') → j ≠ i → d' ≠ d := by
  have hl := (List.getElem?_eq_some_iff.1 hi).1
  have h1 := List.all_eq_true.1 h i (by simpa using hl)
  simp only [hi, Option.bind_some, id] at h1
  rw [Bool.and_eq_true] at h1
  refine ⟨of_decide_eq_true h1.1, fun j d' hj hji hd => ?_⟩
  have hlj := (List.getElem?_eq_some_iff.1 hj).1
  have h2 := List.all_eq_true.1 h1.2 j (by simpa using hlj)
  simp only [hj, Option.bind_some, id] at h2
  rw [Bool.or_eq_true] at h2
  rcases h2 with h2 | h2
  · exact hji (by simpa using h2)
  · simp [hd] at h2
section
variable (B : Nat) (A : Option Addr) (n c g : Nat) (K0 N : Nat) (T0 : Array Value) (dst : List (Option Nat)) (F : Nat → Value → Prop) (P : World → Prop)
/-- What holds before and after each operation of the region. -/
structure Sm (fuel : Nat) (listed : Array Bool) (a : Act) (W : World) : Prop where
  size : a.tmps.size = N
  defers : a.defers = []
  same : ∀ s, some s ∉ dst → a.tmps.getD s undef = T0.getD s undef
  slots : ∀ i d, dst[i]? = some (some d) → listed.getD i false = true → F i (a.tmps.getD d undef)
  cur : ∃ k, k + 3 * fuel ≤ K0 ∧ Cur B A n c g k W
  keep : P W
end
section
variable {B : Nat} {A : Option Addr} {n c g : Nat} {K0 N : Nat} {T0 : Array Value} {dst : List (Option Nat)} {F : Nat → Value → Prop} {P : World → Prop} {fuel : Nat} {listed : Array Bool} {a : Act} {W W' : World} {Q : Exit → Act → World → Prop} {ops : Array Oper} {i : Nat} {o : Oper}
theorem Sm.put (h : Sm B A n c g K0 N T0 dst F P (fuel + 1) listed a W) (hP : planM N dst = true) {d : Nat} {x : Value} (hi : dst[i]? = some (some d)) (hf : F i x) (hk : P W') (hc : ∃ k, k + 3 * fuel ≤ K0 ∧ Cur B A n c g k W') :
    Sm B A n c g K0 N T0 dst F P fuel (listed.setIfInBounds i true) (a.put (some d) x) W' := by
  obtain ⟨hd, hother⟩ := planM_at hP hi
  have hsz := h.size
  refine ⟨by simpa [Act.put] using hsz, h.defers, fun s hs => ?_, fun j d' hj hl => ?_, hc, hk⟩
  · have hne : d ≠ s := fun e => hs (by rw [← e]; exact List.mem_of_getElem? hi)
    show (a.tmps.setIfInBounds d x).getD s undef = _
    rw [getD_put _ hne]
    exact h.same s hs
  · show F j ((a.tmps.setIfInBounds d x).getD d' undef)
    by_cases e : j = i
    · subst e
      rw [hi] at hj
      obtain rfl : d = d' := by injection hj with h1; injection h1
      have : (a.tmps.setIfInBounds d x).getD d undef = x := by simp [hsz, hd]
      rw [this]; exact hf
    · have hne := hother j d' hj e
      rw [getD_put _ (Ne.symm hne)]
      rw [listed_other e] at hl
      exact h.slots j d' hj hl
theorem Sm.skip (h : Sm B A n c g K0 N T0 dst F P (fuel + 1) listed a W) (hi : dst[i]? = some none) (hk : P W') (hc : ∃ k, k + 3 * fuel ≤ K0 ∧ Cur B A n c g k W') :
    Sm B A n c g K0 N T0 dst F P fuel (listed.setIfInBounds i true) (a.put none undef) W' := by
  refine ⟨h.size, h.defers, h.same, fun j d' hj hl => ?_, hc, hk⟩
  by_cases e : j = i
  · subst e; rw [hi] at hj; cases hj
  · rw [listed_other e] at hl
    exact h.slots j d' hj hl
theorem Sm.cur' (h : Sm B A n c g K0 N T0 dst F P (fuel + 1) listed a W) : ∃ k, k + 3 * fuel ≤ K0 ∧ Cur B A n c g k W := by
  obtain ⟨k, hk, hc⟩ := h.cur
  exact ⟨k, by omega, hc⟩
/-- An operation whose value is known and that turns nothing. -/
theorem Sm.value (h : Sm B A n c g K0 N T0 dst F P (fuel + 1) listed a W) (hP : planM N dst = true) (ho : ops[i]? = some o) {d : Nat} {p : Op} (hv : viewOp ops i = some (some d, p, none)) (x : Value)
    (hx : (execOp a.eval o).run Try.prog W = .ok (.value x) W) (hi : dst[i]? = some (some d)) (hf : F i x) :
    wpOp Try.prog ops Q i (fun a' w' => Sm B A n c g K0 N T0 dst F P fuel (listed.setIfInBounds i true) a' w') a W := by
  obtain ⟨hd, hp, hg⟩ := viewOp_at hv ho
  refine op_value ho hg (x := x) (W' := W) hx ?_
  rw [hd]
  exact h.put hP hi hf h.keep h.cur'
/-- The region, from its start to its end. -/
theorem region_m {rid : Nat} {a0 : Act} {w1 : World} {k : Nat} (hsz : a0.tmps.size = N) (hdb : depB .any ops = true) (hdf : a0.defers = []) (hk : k + 3 * ops.size ≤ K0) (hc : Cur B A n c g k w1) (hP : P w1.drew)
    (hstep : ∀ fuel listed a W, Sm B A n c g K0 N a0.tmps dst F P (fuel + 1) listed a W → ∀ i o, ops[i]? = some o → listed.getD i true = false → (∀ e ∈ o.after, Region.binds .any e = true → listed.getD e.on false = true) →
      wpOp Try.prog ops Q i (fun a' w' => Sm B A n c g K0 N a0.tmps dst F P fuel (listed.setIfInBounds i true) a' w') a W)
    (hend : ∀ (vs : Nat → Value) (W : World) (k' : Nat), k' ≤ K0 → Cur B A n c g k' W → P W → Q .normal ⟨(patch a0.tmps.toList (slotsN (dst.filterMap id) vs)).toArray, []⟩ W) :
    (Code.region rid ops true).wp Try.prog Q a0 w1 := by
  refine region_inv (by kernel_rfl) hdb (Sm B A n c g K0 N a0.tmps dst F P) hstep ?_ ?_
  · intro fuel listed a W hS hall
    obtain ⟨k', hk', hc'⟩ := hS.cur
    have he := frame_is (a := a) (l := a0.tmps.toList) (slotsN (dst.filterMap id) fun d => a.tmps.getD d undef) (by rw [hS.size]; simpa using hsz.symm) hS.defers (fun p hp => by
      obtain ⟨d, _, rfl⟩ := List.mem_map.1 hp
      rfl) (fun s hs hl => by
      have h1 := hS.same s (fun hm => hs (List.mem_map.2 ⟨(s, a.tmps.getD s undef), List.mem_map.2 ⟨s, List.mem_filterMap.2 ⟨some s, hm, rfl⟩, rfl⟩, rfl⟩))
      rw [h1]
      simp [Array.getD_eq_getD_getElem?, List.getD_eq_getElem?_getD])
    have h3 := hend (fun d => a.tmps.getD d undef) W k' (by omega) hc' hS.keep
    rw [← he] at h3
    exact h3
  · exact ⟨hsz, hdf, fun _ _ => rfl, fun i d _ hl => (rep_no' hl).elim, ⟨k, hk, hc.drew_'⟩, hP⟩
end
end Go.Proofs.Ytdmnkmdlochogab
