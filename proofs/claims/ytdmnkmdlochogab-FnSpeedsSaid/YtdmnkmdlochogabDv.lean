/-
  Operations of a region that draws its order: what each kind needs. Proved of every region of this translation. Conditions: stated at each theorem.
-/
import Derived.Test.YtdmnkmdlochogabDg
import Derived.Test.YtdmnkmdlochogabRa
import Derived.Test.YtdmnkmdlochogabSl
namespace Go.Proofs.Ytdmnkmdlochogab
open Go.RowKit Go.Sort

theorem getD_put {α : Type} (l : Array α) {i j : Nat} (h : i ≠ j) (x d : α) : (l.setIfInBounds i x).getD j d = l.getD j d := by
  simp [Array.getD_eq_getD_getElem?, Array.getElem?_setIfInBounds_ne h]
section
variable {listed : Array Bool} {a : Act} {W W' : World} {Q : Exit → Act → World → Prop} {ops : Array Oper} {i : Nat} {o : Oper}
theorem listed_other {j : Nat} (h : j ≠ i) (d : Bool) : (listed.setIfInBounds i true).getD j d = listed.getD j d := getD_put _ (Ne.symm h) _ _
/-- The operation's slot, kind and guard. -/
def viewOp (ops : Array Oper) (i : Nat) : Option (Option Tmp × Op × Option (Nat × Bool)) := ops[i]?.map fun o => (o.dst, o.op, o.guard)
theorem viewOp_at {d : Option Tmp} {p : Op} (h : viewOp ops i = some (d, p, none)) (ho : ops[i]? = some o) : o.dst = d ∧ o.op = p ∧ o.guard = none := by
  unfold viewOp at h
  rw [ho] at h
  simp only [Option.map_some, Option.some.injEq, Prod.mk.injEq] at h
  exact h
def depOK (ops : Array Oper) (i j : Nat) : Bool := (ops[i]?.map fun o => o.after.toList.any fun e => e.on == j && Region.binds .any e).getD false
theorem dep_of {j : Nat} (h : depOK ops i j = true) (ho : ops[i]? = some o) (hd : ∀ e ∈ o.after, Region.binds .any e = true → listed.getD e.on false = true) : listed.getD j false = true := by
  unfold depOK at h
  rw [ho] at h
  simp only [Option.map_some, Option.getD_some] at h
  obtain ⟨e, he, h2⟩ := List.any_eq_true.1 h
  rw [Bool.and_eq_true] at h2
  have h3 := hd e (Array.mem_toList_iff.1 he) h2.2
  rwa [show e.on = j by simpa using h2.1] at h3
theorem op_value {K : Act → World → Prop} {x : Value} (ho : ops[i]? = some o) (hg : o.guard = none) (hx : (execOp a.eval o).run Try.prog W = .ok (.value x) W') (h : K (a.put o.dst x) W') : wpOp Try.prog ops Q i K a W := by
  unfold wpOp
  simp only [ho, Region.wanted, hg, if_true]
  refine .inl ?_
  unfold Oper.wp
  rw [hx]
  exact h
theorem op_skip {K : Act → World → Prop} (ho : ops[i]? = some o) (hg : o.guard = none) (hx : (execOp a.eval o).run Try.prog W = .ok .skip W') (h : K (a.put o.dst undef) W') : wpOp Try.prog ops Q i K a W := by
  unfold wpOp
  simp only [ho, Region.wanted, hg, if_true]
  refine .inl ?_
  unfold Oper.wp
  rw [hx]
  exact h
theorem op_call {K : Act → World → Prop} {f : FuncId} {args : Array Value} {R : Ending → World → Prop} (ho : ops[i]? = some o) (hg : o.guard = none) (hx : (execOp a.eval o).run Try.prog W = .ok (.enter f args) W) (hc : Calls Try.prog f args W R)
    (h : ∀ e w', R e w' → ∃ x, e = .returned x ∧ K (a.put o.dst x) w') : wpOp Try.prog ops Q i K a W := by
  unfold wpOp
  simp only [ho, Region.wanted, hg, if_true]
  refine .inl ?_
  unfold Oper.wp
  rw [hx]
  refine Calls.mono hc fun e w' hr => ?_
  obtain ⟨x, rfl, hk⟩ := h e w' hr
  exact hk
theorem enter_any {f : FuncId} {fn : Func} {args : Array Value} (hf : Try.prog.funcs[f]? = some fn) (hn : (fn.name == "runtime.NumGoroutine") = false) (hb : fn.body.isNone = false) : (callFunc f args).run Try.prog W = .ok (.enter f args) W := by
  have hn' : ¬ fn.name = "runtime.NumGoroutine" := by simpa using hn
  have hb' : ¬ fn.body = none := fun e => by rw [e] at hb; cases hb
  simp [callFunc, go_sem, hf, hn', hb']
end
end Go.Proofs.Ytdmnkmdlochogab
