/-
  The row's step of a tied card whose walk also reads a variable of the library that the row does not list: the world's shape and the condition, both handed on. Conditions: stated at the theorem.
-/
import Derived.SizedLaws
import Derived.HandedShaped
import Derived.LaidLaws
import Derived.Shelf.Vars
namespace Go.Proofs.YtklbefdpfhidkaaDoor
theorem change_and_shaped {H : Type} {enc : TypeId × Value → H} {a : Assume} {C : Checked} {os : Os} {f : FuncId} {fn : Func} {s : ChangeSpec} {conds : List PathCond} {apart fresh handsOn again : Bool} {X : World → Array Value → Prop}
    (keeps : ∀ (u u' : World) (xs : Array Value), u.heap = u'.heap → X u xs → X u' xs)
    (own : ownKnob C.prog.godebug = none) (started : os.Started) (noInit : C.prog.inits.idxOf? f = none) (at_ : C.prog.funcs[f]? = some fn)
    (start : ∃ (w : World) (tape : Tape) (i : Input), w.os = os ∧ (w.forCall tape i).Shaped C.prog ∧ i.vars = [] ∧ Input.okWide C.prog (w.forCall tape i) .any w.heap.size f i ∧
      ((s.pre enc C.prog fn conds apart (w.forCall tape i).memory i.args ∧ X (w.forCall tape i).memory i.args) ∧ sizedMet enc C.prog fn (OpenSpec.ofChange s) apart (w.forCall tape i).memory i.args) ∧ a.holds C.prog (lone (Frame.enter C.prog f i.args .normal) [] (w.forCall tape i)))
    (walked : ∀ (W : World) (base : Nat) (xs : Array Value) (ds gs : List (DataW H)) (before : List MemPlace),
      (∀ (j : Nat) t v, fn.params[j]? = some t → xs[j]? = some v → Value.okWide C.prog W .any base t v) →
      DataW.Whole enc C.prog fn.params.toList s.vars apart W xs.toList ds gs before →
      conds.all (PathCond.test C.prog ⟨fn.params.toList, ds, s.plain.varTypes C.prog, gs⟩) = true →
      (DataW.weightsEach C.prog (fn.params.toList ++ s.plain.varTypes C.prog) (ds ++ gs)).all (· ≤ reachBytes) = true →
      W.ShapedOpen C.prog → X W xs →
      a.holds C.prog (lone (Frame.enter C.prog f xs .normal) [] W) →
      Calls C.prog f xs W fun e W' => ∃ v, e = .returned v ∧ s.post enc C.prog fn apart fresh handsOn again W xs v W') :
    ReturnsInHanded a C os f .any (fun w xs => (s.pre enc C.prog fn conds apart w xs ∧ X w xs) ∧ sizedMet enc C.prog fn (OpenSpec.ofChange s) apart w xs) (s.post enc C.prog fn apart fresh handsOn again) := by
  refine returnsInHanded_of_calls own started noInit start ?_
  rintro w tape i _ shape _ ⟨_, _, _, fn', there, _, _, _, _, good⟩ ⟨⟨⟨ds, gs, before, whole, cond⟩, x⟩, sized⟩ holds
  obtain rfl : fn' = fn := Option.some.inj (there.symm.trans at_)
  refine (walked (w.forCall tape i) w.heap.size i.args ds gs before good (DataW.Whole.of_heap (w' := w.forCall tape i) (by rfl) whole) cond (sized.weights whole) shape (keeps _ _ _ (by rfl) x) holds).mono ?_
  rintro e W' ⟨v, rfl, post⟩
  exact ChangeSpec.post_blind post
end Go.Proofs.YtklbefdpfhidkaaDoor
