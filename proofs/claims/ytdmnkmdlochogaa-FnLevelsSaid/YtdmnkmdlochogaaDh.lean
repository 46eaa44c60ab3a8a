/-
  Regions that draw a craft and numbers in whatever order: what each kind of operation keeps. Conditions: stated at each theorem.
-/
import Derived.Test.YtdmnkmdlochogaaDv
import Derived.Test.YtdmnkmdlochogaaRv
namespace Go.Proofs.Ytdmnkmdlochogaa
open Go.RowKit Go.Sort

/-- What a slot of such a region holds once its operation has come up. -/
inductive Kd where
  | ptr
  | row (xs : List Int)
  | num (lo hi : Nat)
  | pre (xs : List Int)
  | any
  | agg
  | rd
  | fld
  | val
  | cnt
  | ix
  | el
def Fits (g br : Nat) (v : CC) (W : World) : Kd → Value → Prop
  | .ptr, x => x = .pointer (some ⟨g, 0, none⟩)
  | .row xs, x => ∃ b, x = .slice (some ⟨b, 0, none⟩) xs.length xs.length ∧ b ≠ g ∧ b ≠ br ∧ Has W b (xs.map (Value.int .i64))
  | .num lo hi, x => ∃ r : Nat, x = .int .i64 r ∧ lo ≤ r ∧ r ≤ hi
  | .pre xs, x => ∃ b r cap, x = .slice (some ⟨b, 0, none⟩) r cap ∧ 1 < r ∧ r ≤ xs.length ∧ b ≠ g ∧ b ≠ br ∧ Has W b (xs.map (Value.int .i64))
  | .any, x => ∃ y, x = .int .i64 y
  | .agg, x => x = .agg #[.int .i64 v.id, .string v.nm, .int .i64 v.dr, .int .i64 v.ah, .int .i64 v.be, .int .i64 v.sp, .int .i64 v.fu]
  | .rd, x => ∃ t y, x = .agg #[.int .i64 t, .int .i64 y]
  | _, _ => True
theorem Fits.on {g br : Nat} {v : CC} {W W' : World} {K : Kd} {x : Value} (h : Fits g br v W K x) {q : Nat} (hg : W.grownBy W' (some q)) (hq : q = g ∨ q = br) : Fits g br v W' K x := by
  cases K with
  | row xs =>
    obtain ⟨b, hx, hb, hb2, hh⟩ := h
    exact ⟨b, hx, hb, hb2, has_grown hh hg (fun e => by have := Option.some.inj e; omega)⟩
  | pre xs =>
    obtain ⟨b, r, cap, hx, h1, h2, hb, hb2, hh⟩ := h
    exact ⟨b, r, cap, hx, h1, h2, hb, hb2, has_grown hh hg (fun e => by have := Option.some.inj e; omega)⟩
  | _ => exact h
/-- The slots that the operations write are told apart, lie within the frame, and none of them is one of the fixed ones. -/
def planB (N : Nat) (fixed : List Nat) (plan : List (Option Nat × Kd)) : Bool :=
  (List.range plan.length).all fun i => match (plan[i]?).bind (·.1) with
    | none => true
    | some d => decide (d < N) && !fixed.contains d && (List.range plan.length).all fun j => j == i || (match (plan[j]?).bind (·.1) with | none => true | some d' => d' != d)
theorem planB_at {N : Nat} {fixed : List Nat} {plan : List (Option Nat × Kd)} (h : planB N fixed plan = true) {i d : Nat} {K : Kd} (hi : plan[i]? = some (some d, K)) :
    d < N ∧ fixed.contains d = false ∧ ∀ j d' K', plan[j]? = some (some d', K') → j ≠ i → d' ≠ d := by
  have hl := (List.getElem?_eq_some_iff.1 hi).1
  have h1 := List.all_eq_true.1 h i (by simpa using hl)
  simp only [hi, Option.bind_some] at h1
  rw [Bool.and_eq_true, Bool.and_eq_true] at h1
  refine ⟨of_decide_eq_true h1.1.1, by simpa using h1.1.2, fun j d' K' hj hji hd => ?_⟩
  have hlj := (List.getElem?_eq_some_iff.1 hj).1
  have h2 := List.all_eq_true.1 h1.2 j (by simpa using hlj)
  simp only [hj, Option.bind_some] at h2
  rw [Bool.or_eq_true] at h2
  rcases h2 with h2 | h2
  · exact hji (by simpa using h2)
  · simp [hd] at h2
section
variable (B : Nat) (A : Option Addr) (n c g : Nat) (v : CC) (w0 : World) (K0 N : Nat) (fixed : List (Nat × Value)) (plan : List (Option Nat × Kd)) (bb br : Nat)
/-- What holds before and after each operation of the region. -/
structure St (fuel : Nat) (listed : Array Bool) (a : Act) (W : World) : Prop where
  size : a.tmps.size = N
  defers : a.defers = []
  fix : ∀ p ∈ fixed, a.tmps.getD p.1 undef = p.2
  slots : ∀ i d K, plan[i]? = some (some d, K) → listed.getD i false = true → Fits g br v W K (a.tmps.getD d undef)
  cur : ∃ k, k + fuel ≤ K0 ∧ Cur B A n c g k W
  grown : w0.grownBy W (some g)
  box : Has W bb [.int .i64 v.id, .string v.nm, .int .i64 v.dr, .int .i64 v.ah, .int .i64 v.be, .int .i64 v.sp, .int .i64 v.fu]
  res : ∃ cs, Has W br cs ∧ cs.length = 7 ∧ ∀ i, plan[i]? = some (none, .agg) → listed.getD i false = true → cs = [.int .i64 v.id, .string v.nm, .int .i64 v.dr, .int .i64 v.ah, .int .i64 v.be, .int .i64 v.sp, .int .i64 v.fu]
end
section
variable {B : Nat} {A : Option Addr} {n c g : Nat} {v : CC} {w0 : World} {K0 N : Nat} {fixed : List (Nat × Value)} {plan : List (Option Nat × Kd)} {bb br : Nat} {fuel : Nat} {listed : Array Bool} {a : Act} {W W' : World} {Q : Exit → Act → World → Prop} {ops : Array Oper} {i : Nat} {o : Oper}
theorem St.put (h : St B A n c g v w0 K0 N fixed plan bb br (fuel + 1) listed a W) (hP : planB N (fixed.map (·.1)) plan = true) (hbb : bb ≠ g) (hbr : br ≠ g) {d : Nat} {K : Kd} {x : Value} (hi : plan[i]? = some (some d, K)) (hf : Fits g br v W' K x) (hg : W.grownBy W' (some g))
    (hc : ∃ k, k + fuel ≤ K0 ∧ Cur B A n c g k W') : St B A n c g v w0 K0 N fixed plan bb br fuel (listed.setIfInBounds i true) (a.put (some d) x) W' := by
  obtain ⟨hd, hnf, hother⟩ := planB_at hP hi
  have hsz := h.size
  refine ⟨by simpa [Act.put] using hsz, h.defers, fun p hp => ?_, fun j d' K' hj hl => ?_, hc, grown_trans h.grown hg, has_grown h.box hg (fun e => hbb (Option.some.inj e)), ?_⟩
  · have hne : d ≠ p.1 := fun e => by
      have : (fixed.map (·.1)).contains d = true := by
        rw [List.contains_iff_mem]
        exact List.mem_map.2 ⟨p, hp, e.symm⟩
      rw [hnf] at this; cases this
    show (a.tmps.setIfInBounds d x).getD p.1 undef = p.2
    rw [getD_put _ hne]
    exact h.fix p hp
  · show Fits g br v W' K' ((a.tmps.setIfInBounds d x).getD d' undef)
    by_cases e : j = i
    · subst e
      rw [hi] at hj
      obtain ⟨rfl, rfl⟩ : d = d' ∧ K = K' := by injection hj with h1; injection h1 with h2 h3; injection h2 with h2; exact ⟨h2, h3⟩
      have : (a.tmps.setIfInBounds d x).getD d undef = x := by simp [hsz, hd]
      rw [this]; exact hf
    · have hne := hother j d' K' hj e
      rw [getD_put _ (Ne.symm hne)]
      rw [listed_other e] at hl
      exact (h.slots j d' K' hj hl).on hg (.inl rfl)
  · obtain ⟨cs, hcs, h7, hcv⟩ := h.res
    refine ⟨cs, has_grown hcs hg (fun e => hbr (Option.some.inj e)), h7, fun j hj hl => ?_⟩
    by_cases e : j = i
    · subst e; rw [hi] at hj; cases hj
    · rw [listed_other e] at hl
      exact hcv j hj hl
theorem St.cur' (h : St B A n c g v w0 K0 N fixed plan bb br (fuel + 1) listed a W) : ∃ k, k + fuel ≤ K0 ∧ Cur B A n c g k W := by
  obtain ⟨k, hk, hc⟩ := h.cur
  exact ⟨k, by omega, hc⟩
theorem St.move (h : St B A n c g v w0 K0 N fixed plan bb br (fuel + 1) listed a W) (hP : planB N (fixed.map (·.1)) plan = true) (hbb : bb ≠ g) (hbr : br ≠ g) (ho : ops[i]? = some o)
    {d t : Nat} (hv : viewOp ops i = some (some d, .move (.tmp t), none)) (ht : (t, Value.pointer (some ⟨g, 0, none⟩)) ∈ fixed) (hi : plan[i]? = some (some d, .ptr)) :
    wpOp Try.prog ops Q i (fun a' w' => St B A n c g v w0 K0 N fixed plan bb br fuel (listed.setIfInBounds i true) a' w') a W := by
  obtain ⟨hd, hp, hg⟩ := viewOp_at hv ho
  have hx := h.fix _ ht
  have h' : a.tmps[t]?.getD undef = .pointer (some ⟨g, 0, none⟩) := by simpa using hx
  refine op_value ho hg (x := .pointer (some ⟨g, 0, none⟩)) (W' := W) (by simp [execOp, hp, h', go_sem]) ?_
  rw [hd]
  exact h.put hP hbb hbr hi rfl ⟨rfl, rfl, rfl, Nat.le_refl _, fun _ _ _ => rfl⟩ h.cur'
theorem St.assign (h : St B A n c g v w0 K0 N fixed plan bb br (fuel + 1) listed a W) (hP : planB N (fixed.map (·.1)) plan = true) (hbb : bb ≠ g) (hbr : br ≠ g) (ho : ops[i]? = some o)
    {d t j : Nat} (hv : viewOp ops i = some (some d, .assign (.tmp t), none)) (hj : plan[j]? = some (some t, .any)) (hl : listed.getD j false = true) (hi : plan[i]? = some (some d, .any)) :
    wpOp Try.prog ops Q i (fun a' w' => St B A n c g v w0 K0 N fixed plan bb br fuel (listed.setIfInBounds i true) a' w') a W := by
  obtain ⟨hd, hp, hg⟩ := viewOp_at hv ho
  obtain ⟨y, hx⟩ := h.slots j t .any hj hl
  have h' : a.tmps[t]?.getD undef = .int .i64 y := by simpa using hx
  refine op_value ho hg (x := .int .i64 y) (W' := W) (by simp [execOp, hp, h', go_sem]) ?_
  rw [hd]
  exact h.put hP hbb hbr hi ⟨y, rfl⟩ ⟨rfl, rfl, rfl, Nat.le_refl _, fun _ _ _ => rfl⟩ h.cur'
theorem St.quo (h : St B A n c g v w0 K0 N fixed plan bb br (fuel + 1) listed a W) (hP : planB N (fixed.map (·.1)) plan = true) (hbb : bb ≠ g) (hbr : br ≠ g) (ho : ops[i]? = some o)
    {d t j : Nat} (hv : viewOp ops i = some (some d, .binOp .quo 3 (.tmp t) (.const (.int .i64 11)) 3, none)) (hj : plan[j]? = some (some t, .num 0 23)) (hl : listed.getD j false = true) (hi : plan[i]? = some (some d, .num 0 2)) :
    wpOp Try.prog ops Q i (fun a' w' => St B A n c g v w0 K0 N fixed plan bb br fuel (listed.setIfInBounds i true) a' w') a W := by
  obtain ⟨hd, hp, hg⟩ := viewOp_at hv ho
  obtain ⟨q, hx, _, hq⟩ := h.slots j t _ hj hl
  have h' : a.tmps[t]?.getD undef = .int .i64 q := by simpa using hx
  have hw : IntKind.i64.wrap ((q : Int) / 11) = (q : Int) / 11 := IntWalk.i64_in _ (by omega)
  refine op_value ho hg (x := .int .i64 ((q : Int) / 11)) (W' := W) (by simp [execOp, hp, h', go_sem, hw]) ?_
  rw [hd]
  exact h.put hP hbb hbr hi ⟨q / 11, by simp, by omega, by omega⟩ ⟨rfl, rfl, rfl, Nat.le_refl _, fun _ _ _ => rfl⟩ h.cur'
theorem St.add (h : St B A n c g v w0 K0 N fixed plan bb br (fuel + 1) listed a W) (hP : planB N (fixed.map (·.1)) plan = true) (hbb : bb ≠ g) (hbr : br ≠ g) (ho : ops[i]? = some o)
    {d t j m : Nat} (hm : m ≤ 100) (hv : viewOp ops i = some (some d, .binOp .add 3 (.const (.int .i64 m)) (.tmp t) 3, none)) (hj : plan[j]? = some (some t, .num 0 2)) (hl : listed.getD j false = true) (hi : plan[i]? = some (some d, .num m (m + 2))) :
    wpOp Try.prog ops Q i (fun a' w' => St B A n c g v w0 K0 N fixed plan bb br fuel (listed.setIfInBounds i true) a' w') a W := by
  obtain ⟨hd, hp, hg⟩ := viewOp_at hv ho
  obtain ⟨q, hx, _, hq⟩ := h.slots j t _ hj hl
  have h' : a.tmps[t]?.getD undef = .int .i64 q := by simpa using hx
  have hw : IntKind.i64.wrap ((m : Int) + (q : Int)) = (m : Int) + (q : Int) := IntWalk.i64_in _ (by omega)
  refine op_value ho hg (x := .int .i64 ((m : Int) + (q : Int))) (W' := W) (by simp [execOp, hp, h', go_sem, hw]) ?_
  rw [hd]
  exact h.put hP hbb hbr hi ⟨m + q, by simp, by omega, by omega⟩ ⟨rfl, rfl, rfl, Nat.le_refl _, fun _ _ _ => rfl⟩ h.cur'
theorem St.slice (h : St B A n c g v w0 K0 N fixed plan bb br (fuel + 1) listed a W) (hP : planB N (fixed.map (·.1)) plan = true) (hbb : bb ≠ g) (hbr : br ≠ g) (ho : ops[i]? = some o)
    {d t s j j' m : Nat} {xs : List Int} (hm : 1 < m) (hm2 : m + 2 ≤ xs.length) (_hxs : xs.length ≤ 100) (hv : viewOp ops i = some (some d, .slice 39 (.tmp t) none (some (.tmp s)) none, none)) (hj : plan[j]? = some (some t, .row xs)) (hl : listed.getD j false = true)
    (hj' : plan[j']? = some (some s, .num m (m + 2))) (hl' : listed.getD j' false = true) (hi : plan[i]? = some (some d, .pre xs)) :
    wpOp Try.prog ops Q i (fun a' w' => St B A n c g v w0 K0 N fixed plan bb br fuel (listed.setIfInBounds i true) a' w') a W := by
  obtain ⟨hd, hp, hg⟩ := viewOp_at hv ho
  obtain ⟨b, hx, hb, hb2, hh⟩ := h.slots j t _ hj hl
  obtain ⟨r, hx2, hr1, hr2⟩ := h.slots j' s _ hj' hl'
  have h' : a.tmps[t]?.getD undef = .slice (some ⟨b, 0, none⟩) xs.length xs.length := by simpa using hx
  have h2' : a.tmps[s]?.getD undef = .int .i64 r := by simpa using hx2
  refine op_value ho hg (x := .slice (some ⟨b, 0, none⟩) r xs.length) (W' := W) (by simp [execOp, hp, h', h2', go_sem]; intro; omega) ?_
  rw [hd]
  exact h.put hP hbb hbr hi ⟨b, r, xs.length, rfl, by omega, by omega, hb, hb2, hh⟩ ⟨rfl, rfl, rfl, Nat.le_refl _, fun _ _ _ => rfl⟩ h.cur'
theorem St.pick (h : St B A n c g v w0 K0 N fixed plan bb br (fuel + 1) listed a W) (hP : planB N (fixed.map (·.1)) plan = true) (hbb : bb ≠ g) (hbr : br ≠ g) (ho : ops[i]? = some o) (hK : K0 ≤ 900000)
    {d t j : Nat} {ts : Array TypeId} (hv : viewOp ops i = some (some d, .call { callee := .value (.func 163), args := #[.tmp t, .const (.int .i64 24)], argTypes := ts }, none)) (hj : plan[j]? = some (some t, .ptr)) (hl : listed.getD j false = true) (hi : plan[i]? = some (some d, .num 0 23)) :
    wpOp Try.prog ops Q i (fun a' w' => St B A n c g v w0 K0 N fixed plan bb br fuel (listed.setIfInBounds i true) a' w') a W := by
  obtain ⟨hd, hp, hg⟩ := viewOp_at hv ho
  have hx : a.tmps.getD t undef = .pointer (some ⟨g, 0, none⟩) := h.slots j t _ hj hl
  have h' : a.tmps[t]?.getD undef = .pointer (some ⟨g, 0, none⟩) := by simpa using hx
  obtain ⟨k, hk, hc⟩ := h.cur
  refine op_call ho hg (f := 163) (args := #[.pointer (some ⟨g, 0, none⟩), .int .i64 24]) (by simp [execOp, hp, h', go_sem, enter_any Try.func163 (by kernel_rfl) (by kernel_rfl)]) (pick_any B A n c g k 24 W hc (by omega) (by decide) (by decide)) ?_
  rintro e w' ⟨q, hq, rfl, hc', hg'⟩
  refine ⟨_, rfl, ?_⟩
  rw [hd]
  exact h.put hP hbb hbr hi ⟨q, rfl, by omega, by omega⟩ hg' ⟨k + 1, by omega, hc'⟩
theorem St.among (h : St B A n c g v w0 K0 N fixed plan bb br (fuel + 1) listed a W) (hP : planB N (fixed.map (·.1)) plan = true) (hbb : bb ≠ g) (hbr : br ≠ g) (ho : ops[i]? = some o) (hK : K0 ≤ 900000)
    {d t s j j' : Nat} {xs : List Int} (hxs : xs.length ≤ 100) {ts : Array TypeId} (hv : viewOp ops i = some (some d, .call { callee := .value (.func 109), args := #[.tmp t, .tmp s], argTypes := ts }, none)) (hj : plan[j]? = some (some t, .ptr)) (hl : listed.getD j false = true)
    (hj' : plan[j']? = some (some s, .pre xs)) (hl' : listed.getD j' false = true) (hi : plan[i]? = some (some d, .any)) :
    wpOp Try.prog ops Q i (fun a' w' => St B A n c g v w0 K0 N fixed plan bb br fuel (listed.setIfInBounds i true) a' w') a W := by
  obtain ⟨hd, hp, hg⟩ := viewOp_at hv ho
  have hx : a.tmps.getD t undef = .pointer (some ⟨g, 0, none⟩) := h.slots j t _ hj hl
  obtain ⟨b, r, cap, hx2, hr1, hr2, hb, _, hh⟩ := h.slots j' s _ hj' hl'
  have h' : a.tmps[t]?.getD undef = .pointer (some ⟨g, 0, none⟩) := by simpa using hx
  have h2' : a.tmps[s]?.getD undef = .slice (some ⟨b, 0, none⟩) r cap := by simpa using hx2
  obtain ⟨k, hk, hc⟩ := h.cur
  refine op_call ho hg (f := 109) (args := #[.pointer (some ⟨g, 0, none⟩), .slice (some ⟨b, 0, none⟩) r cap]) (by simp [execOp, hp, h', h2', go_sem, enter_any Try.func109 (by kernel_rfl) (by kernel_rfl)]) (among_pre B A n c g k b cap r xs W hc (by omega) hr1 hr2 (by omega) hh hb) ?_
  rintro e w' ⟨y, _, rfl, hc', hg'⟩
  refine ⟨_, rfl, ?_⟩
  rw [hd]
  exact h.put hP hbb hbr hi ⟨y, rfl⟩ hg' ⟨k + 1, by omega, hc'⟩
theorem St.build (h : St B A n c g v w0 K0 N fixed plan bb br (fuel + 1) listed a W) (hP : planB N (fixed.map (·.1)) plan = true) (hbb : bb ≠ g) (hbr : br ≠ g) (ho : ops[i]? = some o)
    {d : Nat} {xs : List Int} {p : Op} (hv : viewOp ops i = some (some d, p, none)) (hr : ∀ (o : Oper) (a : Act) (W : World), o.op = p → (execOp a.eval o).run Try.prog W = .ok (.value (.slice (some ⟨W.heap.size, 0, none⟩) xs.length xs.length)) (W.alloc (.cells (xs.map (Value.int .i64)).toArray 3)))
    (hi : plan[i]? = some (some d, .row xs)) :
    wpOp Try.prog ops Q i (fun a' w' => St B A n c g v w0 K0 N fixed plan bb br fuel (listed.setIfInBounds i true) a' w') a W := by
  obtain ⟨hd, hp, hg⟩ := viewOp_at hv ho
  obtain ⟨k, hk, hc⟩ := h.cur
  have hlt := hc.lt
  refine op_value ho hg (hr o a W hp) ?_
  rw [hd]
  exact h.put hP hbb hbr hi ⟨W.heap.size, rfl, by omega, by obtain ⟨cs, hcs, _⟩ := h.res; have := hcs.1; omega, has_ints W xs⟩ (World.grownBy_alloc _ _ _) ⟨k, by omega, hc.alloc _⟩
end
end Go.Proofs.Ytdmnkmdlochogaa
