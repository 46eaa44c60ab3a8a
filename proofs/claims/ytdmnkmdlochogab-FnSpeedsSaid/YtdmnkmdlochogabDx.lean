/-
  Regions that draw casts and numbers in whatever order: what each kind of operation keeps. Conditions: stated at each theorem.
-/
import Derived.Test.YtdmnkmdlochogabRj0
namespace Go.Proofs.Ytdmnkmdlochogab
open Go.RowKit Go.Sort
set_option linter.unusedVariables false

/-- What a slot of such a region holds once its operation has come up. -/
inductive Kd where
  | ptr
  | row (xs : List Int)
  | num (lo hi : Nat)
  | pre (xs : List Int)
  | any
  | agg
  | rd
  | fld
  | val
  | cnt
  | ix
  | el
  | agg2
  | less
/-- The slots that the operations write are told apart, lie within the frame, and none of them is one of the fixed ones. -/
def planB (N : Nat) (fixed : List Nat) (plan : List (Option Nat × Kd)) : Bool :=
  (List.range plan.length).all fun i => match (plan[i]?).bind (·.1) with
    | none => true
    | some d => decide (d < N) && !fixed.contains d && (List.range plan.length).all fun j => j == i || (match (plan[j]?).bind (·.1) with | none => true | some d' => d' != d)
theorem planB_at {N : Nat} {fixed : List Nat} {plan : List (Option Nat × Kd)} (h : planB N fixed plan = true) {i d : Nat} {K : Kd} (hi : plan[i]? = some (some d, K)) :
    d < N ∧ fixed.contains d = false ∧ ∀ j d' K', plan[j]? = some (some d', K') → j ≠ i → d' ≠ d := by
  have hl := (List.getElem?_eq_some_iff.1 hi).1
  have h1 := List.all_eq_true.1 h i (by simpa using hl)
  simp only [hi, Option.bind_some] at h1
  rw [Bool.and_eq_true, Bool.and_eq_true] at h1
  refine ⟨of_decide_eq_true h1.1.1, by simpa using h1.1.2, fun j d' K' hj hji hd => ?_⟩
  have hlj := (List.getElem?_eq_some_iff.1 hj).1
  have h2 := List.all_eq_true.1 h1.2 j (by simpa using hlj)
  simp only [hj, Option.bind_some] at h2
  rw [Bool.or_eq_true] at h2
  rcases h2 with h2 | h2
  · exact hji (by simpa using h2)
  · simp [hd] at h2
/-- A second cast, its block and the block that it is handed back in. -/
structure TwoB where
  b2 : Nat
  br2 : Nat
  id : Int
  tm : Int
  sp : Int × Int
  R : Option Addr
  m : Nat
  c : Nat
def TwoB.cells (x : TwoB) : List Value := [.int .i64 x.id, .int .i64 x.tm, .int .i64 x.sp.1, .int .i64 x.sp.2, .slice x.R x.m x.c]
def FitsV (g bb : Nat) (bs : List Nat) (X : TwoB) (gi : Int) (gn : Int × Int) (gz : Int) (gR : Option Addr) (gm gc : Nat) (W : World) : Kd → Value → Prop
  | .ptr, x => x = .pointer (some ⟨g, 0, none⟩)
  | .row xs, x => ∃ b, x = .slice (some ⟨b, 0, none⟩) xs.length xs.length ∧ b ≠ g ∧ b ∉ bs ∧ Has W b (xs.map (Value.int .i64))
  | .num lo hi, x => ∃ r : Nat, x = .int .i64 r ∧ lo ≤ r ∧ r ≤ hi
  | .pre xs, x => ∃ b r cap, x = .slice (some ⟨b, 0, none⟩) r cap ∧ 1 < r ∧ r ≤ xs.length ∧ b ≠ g ∧ b ∉ bs ∧ Has W b (xs.map (Value.int .i64))
  | .any, x => ∃ y, x = .int .i64 y
  | .agg, x => x = .agg #[.int .i64 gi, .int .i64 gz, .int .i64 gn.1, .int .i64 gn.2, .slice gR gm gc]
  | .rd, x => ∃ t y, x = .agg #[.int .i64 t, .int .i64 y]
  | .fld, x => x = .pointer (some ⟨bb, 4, none⟩)
  | .val, x => x = .slice gR gm gc
  | .cnt, x => x = .int .i64 gm
  | .ix, x => ∃ r : Nat, r < gm ∧ x = .int .i64 r
  | .agg2, x => x = .agg X.cells.toArray
  | .less, x => ∃ b : Bool, x = .bool b ∧ (b = true → gm ≤ 8)
  | .el, x => ∃ gb r : Nat, gR = some ⟨gb, 0, none⟩ ∧ r < gm ∧ x = .pointer (some ⟨gb, r * 2, none⟩)
theorem FitsV.on {g bb : Nat} {bs : List Nat} {X : TwoB} {gi : Int} {gn : Int × Int} {gz : Int} {gR : Option Addr} {gm gc : Nat} {W W' : World} {K : Kd} {x : Value} (h : FitsV g bb bs X gi gn gz gR gm gc W K x) {q : Nat} (hg : W.grownBy W' (some q)) (hq : q = g ∨ q ∈ bs) : FitsV g bb bs X gi gn gz gR gm gc W' K x := by
  cases K with
  | row xs =>
    obtain ⟨b, hx, hb, hb2, hh⟩ := h
    exact ⟨b, hx, hb, hb2, has_grown hh hg (fun e => by have := Option.some.inj e; subst this; rcases hq with e2 | e2; exact hb e2; exact hb2 e2)⟩
  | pre xs =>
    obtain ⟨b, r, cap, hx, h1, h2, hb, hb2, hh⟩ := h
    exact ⟨b, r, cap, hx, h1, h2, hb, hb2, has_grown hh hg (fun e => by have := Option.some.inj e; subst this; rcases hq with e2 | e2; exact hb e2; exact hb2 e2)⟩
  | _ => exact h
section
variable (B : Nat) (A : Option Addr) (n c g : Nat) (gi : Int) (gn : Int × Int) (gz : Int) (gR : Option Addr) (gm gc : Nat) (w0 : World) (K0 N : Nat) (fixed : List (Nat × Value)) (plan : List (Option Nat × Kd)) (bb br : Nat) (row : World → Prop) (bs : List Nat) (X : TwoB)
/-- What holds before and after each operation of the region. -/
structure Sv (fuel : Nat) (listed : Array Bool) (a : Act) (W : World) : Prop where
  size : a.tmps.size = N
  defers : a.defers = []
  fix : ∀ p ∈ fixed, a.tmps.getD p.1 undef = p.2
  slots : ∀ i d K, plan[i]? = some (some d, K) → listed.getD i false = true → FitsV g bb bs X gi gn gz gR gm gc W K (a.tmps.getD d undef)
  cur : ∃ k, k + 3 * fuel ≤ K0 ∧ Cur B A n c g k W
  grown : w0.grownBy W (some g)
  box : Has W bb [.int .i64 gi, .int .i64 gz, .int .i64 gn.1, .int .i64 gn.2, .slice gR gm gc]
  kept : row W ∧ ∀ (V V' : World) (q : Nat), V.grownBy V' (some q) → (q = g ∨ q = br ∨ q = X.br2) → row V → row V'
  low : br ∈ bs ∧ ∀ q ∈ bs, q < W.heap.size
  res : ∃ cs, Has W br cs ∧ cs.length = 5 ∧ ∀ i, plan[i]? = some (none, .agg) → listed.getD i false = true → cs = [.int .i64 gi, .int .i64 gz, .int .i64 gn.1, .int .i64 gn.2, .slice gR gm gc]
  box2 : Has W X.b2 X.cells
  res2 : ∃ cs, Has W X.br2 cs ∧ cs.length = 5 ∧ ∀ i, plan[i]? = some (none, .agg2) → listed.getD i false = true → cs = X.cells
  ne2 : X.b2 ≠ g ∧ X.br2 ≠ g ∧ X.b2 ≠ br ∧ X.br2 ≠ br
end
section
variable {B : Nat} {A : Option Addr} {n c g : Nat} {gi : Int} {gn : Int × Int} {gz : Int} {gR : Option Addr} {gm gc : Nat} {w0 : World} {K0 N : Nat} {fixed : List (Nat × Value)} {plan : List (Option Nat × Kd)} {bb br : Nat} {row : World → Prop} {bs : List Nat} {X : TwoB} {fuel : Nat} {listed : Array Bool} {a : Act} {W W' : World} {Q : Exit → Act → World → Prop} {ops : Array Oper} {i : Nat} {o : Oper}
theorem Sv.put (h : Sv B A n c g gi gn gz gR gm gc w0 K0 N fixed plan bb br row bs X (fuel + 1) listed a W) (hP : planB N (fixed.map (·.1)) plan = true) (hbb : bb ≠ g) (hbr : br ≠ g) {d : Nat} {K : Kd} {x : Value} (hi : plan[i]? = some (some d, K)) (hf : FitsV g bb bs X gi gn gz gR gm gc W' K x) (hg : W.grownBy W' (some g))
    (hc : ∃ k, k + 3 * fuel ≤ K0 ∧ Cur B A n c g k W') : Sv B A n c g gi gn gz gR gm gc w0 K0 N fixed plan bb br row bs X fuel (listed.setIfInBounds i true) (a.put (some d) x) W' := by
  obtain ⟨hd, hnf, hother⟩ := planB_at hP hi
  have hsz := h.size
  refine ⟨by simpa [Act.put] using hsz, h.defers, fun p hp => ?_, fun j d' K' hj hl => ?_, hc, grown_trans h.grown hg, has_grown h.box hg (fun e => hbb (Option.some.inj e)), ⟨h.kept.2 _ _ g hg (.inl rfl) h.kept.1, h.kept.2⟩, ⟨h.low.1, fun q hq => Nat.lt_of_lt_of_le (h.low.2 q hq) hg.size⟩, ?_, has_grown h.box2 hg (fun e => h.ne2.1 (Option.some.inj e)), ?_, h.ne2⟩
  · have hne : d ≠ p.1 := fun e => by
      have : (fixed.map (·.1)).contains d = true := by
        rw [List.contains_iff_mem]
        exact List.mem_map.2 ⟨p, hp, e.symm⟩
      rw [hnf] at this; cases this
    show (a.tmps.setIfInBounds d x).getD p.1 undef = p.2
    rw [getD_put _ hne]
    exact h.fix p hp
  · show FitsV g bb bs X gi gn gz gR gm gc W' K' ((a.tmps.setIfInBounds d x).getD d' undef)
    by_cases e : j = i
    · subst e
      rw [hi] at hj
      obtain ⟨rfl, rfl⟩ : d = d' ∧ K = K' := by injection hj with h1; injection h1 with h2 h3; injection h2 with h2; exact ⟨h2, h3⟩
      have : (a.tmps.setIfInBounds d x).getD d undef = x := by simp [hsz, hd]
      rw [this]; exact hf
    · have hne := hother j d' K' hj e
      rw [getD_put _ (Ne.symm hne)]
      rw [listed_other e] at hl
      exact (h.slots j d' K' hj hl).on hg (.inl rfl)
  · obtain ⟨cs, hcs, h4, hcv⟩ := h.res
    refine ⟨cs, has_grown hcs hg (fun e => hbr (Option.some.inj e)), h4, fun j hj hl => ?_⟩
    by_cases e : j = i
    · subst e; rw [hi] at hj; cases hj
    · rw [listed_other e] at hl
      exact hcv j hj hl
  · obtain ⟨cs, hcs, h4, hcv⟩ := h.res2
    refine ⟨cs, has_grown hcs hg (fun e => h.ne2.2.1 (Option.some.inj e)), h4, fun j hj hl => ?_⟩
    by_cases e : j = i
    · subst e; rw [hi] at hj; cases hj
    · rw [listed_other e] at hl
      exact hcv j hj hl
theorem Sv.cur' (h : Sv B A n c g gi gn gz gR gm gc w0 K0 N fixed plan bb br row bs X (fuel + 1) listed a W) : ∃ k, k + 3 * fuel ≤ K0 ∧ Cur B A n c g k W := by
  obtain ⟨k, hk, hc⟩ := h.cur
  exact ⟨k, by omega, hc⟩
theorem Sv.move (h : Sv B A n c g gi gn gz gR gm gc w0 K0 N fixed plan bb br row bs X (fuel + 1) listed a W) (hP : planB N (fixed.map (·.1)) plan = true) (hbb : bb ≠ g) (hbr : br ≠ g) (ho : ops[i]? = some o)
    {d t : Nat} (hv : viewOp ops i = some (some d, .move (.tmp t), none)) (ht : (t, Value.pointer (some ⟨g, 0, none⟩)) ∈ fixed) (hi : plan[i]? = some (some d, .ptr)) :
    wpOp Try.prog ops Q i (fun a' w' => Sv B A n c g gi gn gz gR gm gc w0 K0 N fixed plan bb br row bs X fuel (listed.setIfInBounds i true) a' w') a W := by
  obtain ⟨hd, hp, hg⟩ := viewOp_at hv ho
  have hx := h.fix _ ht
  have h' : a.tmps[t]?.getD undef = .pointer (some ⟨g, 0, none⟩) := by simpa using hx
  refine op_value ho hg (x := .pointer (some ⟨g, 0, none⟩)) (W' := W) (by simp [execOp, hp, h', go_sem]) ?_
  rw [hd]
  exact h.put hP hbb hbr hi rfl ⟨rfl, rfl, rfl, Nat.le_refl _, fun _ _ _ => rfl⟩ h.cur'
theorem Sv.assign (h : Sv B A n c g gi gn gz gR gm gc w0 K0 N fixed plan bb br row bs X (fuel + 1) listed a W) (hP : planB N (fixed.map (·.1)) plan = true) (hbb : bb ≠ g) (hbr : br ≠ g) (ho : ops[i]? = some o)
    {d t j : Nat} (hv : viewOp ops i = some (some d, .assign (.tmp t), none)) (hj : plan[j]? = some (some t, .any)) (hl : listed.getD j false = true) (hi : plan[i]? = some (some d, .any)) :
    wpOp Try.prog ops Q i (fun a' w' => Sv B A n c g gi gn gz gR gm gc w0 K0 N fixed plan bb br row bs X fuel (listed.setIfInBounds i true) a' w') a W := by
  obtain ⟨hd, hp, hg⟩ := viewOp_at hv ho
  obtain ⟨y, hx⟩ := h.slots j t .any hj hl
  have h' : a.tmps[t]?.getD undef = .int .i64 y := by simpa using hx
  refine op_value ho hg (x := .int .i64 y) (W' := W) (by simp [execOp, hp, h', go_sem]) ?_
  rw [hd]
  exact h.put hP hbb hbr hi ⟨y, rfl⟩ ⟨rfl, rfl, rfl, Nat.le_refl _, fun _ _ _ => rfl⟩ h.cur'
theorem Sv.quo (h : Sv B A n c g gi gn gz gR gm gc w0 K0 N fixed plan bb br row bs X (fuel + 1) listed a W) (hP : planB N (fixed.map (·.1)) plan = true) (hbb : bb ≠ g) (hbr : br ≠ g) (ho : ops[i]? = some o)
    {d t j : Nat} (hv : viewOp ops i = some (some d, .binOp .quo 3 (.tmp t) (.const (.int .i64 11)) 3, none)) (hj : plan[j]? = some (some t, .num 0 23)) (hl : listed.getD j false = true) (hi : plan[i]? = some (some d, .num 0 2)) :
    wpOp Try.prog ops Q i (fun a' w' => Sv B A n c g gi gn gz gR gm gc w0 K0 N fixed plan bb br row bs X fuel (listed.setIfInBounds i true) a' w') a W := by
  obtain ⟨hd, hp, hg⟩ := viewOp_at hv ho
  obtain ⟨q, hx, _, hq⟩ := h.slots j t _ hj hl
  have h' : a.tmps[t]?.getD undef = .int .i64 q := by simpa using hx
  have hw : IntKind.i64.wrap ((q : Int) / 11) = (q : Int) / 11 := IntWalk.i64_in _ (by omega)
  refine op_value ho hg (x := .int .i64 ((q : Int) / 11)) (W' := W) (by simp [execOp, hp, h', go_sem, hw]) ?_
  rw [hd]
  exact h.put hP hbb hbr hi ⟨q / 11, by simp, by omega, by omega⟩ ⟨rfl, rfl, rfl, Nat.le_refl _, fun _ _ _ => rfl⟩ h.cur'
theorem Sv.add (h : Sv B A n c g gi gn gz gR gm gc w0 K0 N fixed plan bb br row bs X (fuel + 1) listed a W) (hP : planB N (fixed.map (·.1)) plan = true) (hbb : bb ≠ g) (hbr : br ≠ g) (ho : ops[i]? = some o)
    {d t j m : Nat} (hm : m ≤ 100) (hv : viewOp ops i = some (some d, .binOp .add 3 (.const (.int .i64 m)) (.tmp t) 3, none)) (hj : plan[j]? = some (some t, .num 0 2)) (hl : listed.getD j false = true) (hi : plan[i]? = some (some d, .num m (m + 2))) :
    wpOp Try.prog ops Q i (fun a' w' => Sv B A n c g gi gn gz gR gm gc w0 K0 N fixed plan bb br row bs X fuel (listed.setIfInBounds i true) a' w') a W := by
  obtain ⟨hd, hp, hg⟩ := viewOp_at hv ho
  obtain ⟨q, hx, _, hq⟩ := h.slots j t _ hj hl
  have h' : a.tmps[t]?.getD undef = .int .i64 q := by simpa using hx
  have hw : IntKind.i64.wrap ((m : Int) + (q : Int)) = (m : Int) + (q : Int) := IntWalk.i64_in _ (by omega)
  refine op_value ho hg (x := .int .i64 ((m : Int) + (q : Int))) (W' := W) (by simp [execOp, hp, h', go_sem, hw]) ?_
  rw [hd]
  exact h.put hP hbb hbr hi ⟨m + q, by simp, by omega, by omega⟩ ⟨rfl, rfl, rfl, Nat.le_refl _, fun _ _ _ => rfl⟩ h.cur'
theorem Sv.slice (h : Sv B A n c g gi gn gz gR gm gc w0 K0 N fixed plan bb br row bs X (fuel + 1) listed a W) (hP : planB N (fixed.map (·.1)) plan = true) (hbb : bb ≠ g) (hbr : br ≠ g) (ho : ops[i]? = some o)
    {d t s j j' m : Nat} {xs : List Int} (hm : 1 < m) (hm2 : m + 2 ≤ xs.length) (_hxs : xs.length ≤ 100) (hv : viewOp ops i = some (some d, .slice 36 (.tmp t) none (some (.tmp s)) none, none)) (hj : plan[j]? = some (some t, .row xs)) (hl : listed.getD j false = true)
    (hj' : plan[j']? = some (some s, .num m (m + 2))) (hl' : listed.getD j' false = true) (hi : plan[i]? = some (some d, .pre xs)) :
    wpOp Try.prog ops Q i (fun a' w' => Sv B A n c g gi gn gz gR gm gc w0 K0 N fixed plan bb br row bs X fuel (listed.setIfInBounds i true) a' w') a W := by
  obtain ⟨hd, hp, hg⟩ := viewOp_at hv ho
  obtain ⟨b, hx, hb, hb2, hh⟩ := h.slots j t _ hj hl
  obtain ⟨r, hx2, hr1, hr2⟩ := h.slots j' s _ hj' hl'
  have h' : a.tmps[t]?.getD undef = .slice (some ⟨b, 0, none⟩) xs.length xs.length := by simpa using hx
  have h2' : a.tmps[s]?.getD undef = .int .i64 r := by simpa using hx2
  refine op_value ho hg (x := .slice (some ⟨b, 0, none⟩) r xs.length) (W' := W) (by simp [execOp, hp, h', h2', go_sem]; intro; omega) ?_
  rw [hd]
  exact h.put hP hbb hbr hi ⟨b, r, xs.length, rfl, by omega, by omega, hb, hb2, hh⟩ ⟨rfl, rfl, rfl, Nat.le_refl _, fun _ _ _ => rfl⟩ h.cur'
theorem Sv.pick (h : Sv B A n c g gi gn gz gR gm gc w0 K0 N fixed plan bb br row bs X (fuel + 1) listed a W) (hP : planB N (fixed.map (·.1)) plan = true) (hbb : bb ≠ g) (hbr : br ≠ g) (ho : ops[i]? = some o) (hK : K0 ≤ 900000)
    {d t j : Nat} {ts : Array TypeId} (hv : viewOp ops i = some (some d, .call { callee := .value (.func 118), args := #[.tmp t, .const (.int .i64 24)], argTypes := ts }, none)) (hj : plan[j]? = some (some t, .ptr)) (hl : listed.getD j false = true) (hi : plan[i]? = some (some d, .num 0 23)) :
    wpOp Try.prog ops Q i (fun a' w' => Sv B A n c g gi gn gz gR gm gc w0 K0 N fixed plan bb br row bs X fuel (listed.setIfInBounds i true) a' w') a W := by
  obtain ⟨hd, hp, hg⟩ := viewOp_at hv ho
  have hx : a.tmps.getD t undef = .pointer (some ⟨g, 0, none⟩) := h.slots j t _ hj hl
  have h' : a.tmps[t]?.getD undef = .pointer (some ⟨g, 0, none⟩) := by simpa using hx
  obtain ⟨k, hk, hc⟩ := h.cur
  refine op_call ho hg (f := 118) (args := #[.pointer (some ⟨g, 0, none⟩), .int .i64 24]) (by simp [execOp, hp, h', go_sem, enter_any Try.func118 (by kernel_rfl) (by kernel_rfl)]) (pick_any B A n c g k 24 W hc (by omega) (by decide) (by decide)) ?_
  rintro e w' ⟨q, hq, rfl, hc', hg'⟩
  refine ⟨_, rfl, ?_⟩
  rw [hd]
  exact h.put hP hbb hbr hi ⟨q, rfl, by omega, by omega⟩ hg' ⟨k + 1, by omega, hc'⟩
theorem Sv.among (h : Sv B A n c g gi gn gz gR gm gc w0 K0 N fixed plan bb br row bs X (fuel + 1) listed a W) (hP : planB N (fixed.map (·.1)) plan = true) (hbb : bb ≠ g) (hbr : br ≠ g) (ho : ops[i]? = some o) (hK : K0 ≤ 900000)
    {d t s j j' : Nat} {xs : List Int} (hxs : xs.length ≤ 100) {ts : Array TypeId} (hv : viewOp ops i = some (some d, .call { callee := .value (.func 84), args := #[.tmp t, .tmp s], argTypes := ts }, none)) (hj : plan[j]? = some (some t, .ptr)) (hl : listed.getD j false = true)
    (hj' : plan[j']? = some (some s, .pre xs)) (hl' : listed.getD j' false = true) (hi : plan[i]? = some (some d, .any)) :
    wpOp Try.prog ops Q i (fun a' w' => Sv B A n c g gi gn gz gR gm gc w0 K0 N fixed plan bb br row bs X fuel (listed.setIfInBounds i true) a' w') a W := by
  obtain ⟨hd, hp, hg⟩ := viewOp_at hv ho
  have hx : a.tmps.getD t undef = .pointer (some ⟨g, 0, none⟩) := h.slots j t _ hj hl
  obtain ⟨b, r, cap, hx2, hr1, hr2, hb, _, hh⟩ := h.slots j' s _ hj' hl'
  have h' : a.tmps[t]?.getD undef = .pointer (some ⟨g, 0, none⟩) := by simpa using hx
  have h2' : a.tmps[s]?.getD undef = .slice (some ⟨b, 0, none⟩) r cap := by simpa using hx2
  obtain ⟨k, hk, hc⟩ := h.cur
  refine op_call ho hg (f := 84) (args := #[.pointer (some ⟨g, 0, none⟩), .slice (some ⟨b, 0, none⟩) r cap]) (by simp [execOp, hp, h', h2', go_sem, enter_any Try.func84 (by kernel_rfl) (by kernel_rfl)]) (among_pre B A n c g k b cap r xs W hc (by omega) hr1 hr2 (by omega) hh hb) ?_
  rintro e w' ⟨y, _, rfl, hc', hg'⟩
  refine ⟨_, rfl, ?_⟩
  rw [hd]
  exact h.put hP hbb hbr hi ⟨y, rfl⟩ hg' ⟨k + 1, by omega, hc'⟩
theorem Sv.build (h : Sv B A n c g gi gn gz gR gm gc w0 K0 N fixed plan bb br row bs X (fuel + 1) listed a W) (hP : planB N (fixed.map (·.1)) plan = true) (hbb : bb ≠ g) (hbr : br ≠ g) (ho : ops[i]? = some o)
    {d : Nat} {xs : List Int} {p : Op} (hv : viewOp ops i = some (some d, p, none)) (hr : ∀ (o : Oper) (a : Act) (W : World), o.op = p → (execOp a.eval o).run Try.prog W = .ok (.value (.slice (some ⟨W.heap.size, 0, none⟩) xs.length xs.length)) (W.alloc (.cells (xs.map (Value.int .i64)).toArray 3)))
    (hi : plan[i]? = some (some d, .row xs)) :
    wpOp Try.prog ops Q i (fun a' w' => Sv B A n c g gi gn gz gR gm gc w0 K0 N fixed plan bb br row bs X fuel (listed.setIfInBounds i true) a' w') a W := by
  obtain ⟨hd, hp, hg⟩ := viewOp_at hv ho
  obtain ⟨k, hk, hc⟩ := h.cur
  have hlt := hc.lt
  refine op_value ho hg (hr o a W hp) ?_
  rw [hd]
  exact h.put hP hbb hbr hi ⟨W.heap.size, rfl, by omega, fun hm => by have := h.low.2 _ hm; omega, has_ints W xs⟩ (World.grownBy_alloc _ _ _) ⟨k, by omega, hc.alloc _⟩
theorem Sv.load (h : Sv B A n c g gi gn gz gR gm gc w0 K0 N fixed plan bb br row bs X (fuel + 1) listed a W) (hP : planB N (fixed.map (·.1)) plan = true) (hbb : bb ≠ g) (hbr : br ≠ g) (ho : ops[i]? = some o)
    {d t : Nat} (hv : viewOp ops i = some (some d, .load 64 (.tmp t), none)) (ht : (t, Value.pointer (some ⟨bb, 0, none⟩)) ∈ fixed) (hi : plan[i]? = some (some d, .agg)) :
    wpOp Try.prog ops Q i (fun a' w' => Sv B A n c g gi gn gz gR gm gc w0 K0 N fixed plan bb br row bs X fuel (listed.setIfInBounds i true) a' w') a W := by
  obtain ⟨hd, hp, hg⟩ := viewOp_at hv ho
  have hx := h.fix _ ht
  have h' : a.tmps[t]?.getD undef = .pointer (some ⟨bb, 0, none⟩) := by simpa using hx
  have a0 := h.box.at_ 0 _ rfl
  have a1 := h.box.at_ 1 _ rfl
  have a2 := h.box.at_ 2 _ rfl
  have a3 := h.box.at_ 3 _ rfl
  have a4 := h.box.at_ 4 _ rfl
  refine op_value ho hg (x := .agg #[.int .i64 gi, .int .i64 gz, .int .i64 gn.1, .int .i64 gn.2, .slice gR gm gc]) (W' := W) (by simp [execOp, hp, h', a0, a1, a2, a3, a4, go_sem]) ?_
  rw [hd]
  exact h.put hP hbb hbr hi rfl ⟨rfl, rfl, rfl, Nat.le_refl _, fun _ _ _ => rfl⟩ h.cur'
theorem Sv.store (h : Sv B A n c g gi gn gz gR gm gc w0 K0 N fixed plan bb br row bs X (fuel + 1) listed a W) (hbb : bb ≠ br) (hbr : br ≠ g) (hB : B ≤ br) (hw0 : w0.heap.size ≤ br) (ho : ops[i]? = some o)
    {t s j : Nat} (hv : viewOp ops i = some (none, .store 64 (.tmp t) (.tmp s), none)) (ht : (t, Value.pointer (some ⟨br, 0, none⟩)) ∈ fixed) (hj : plan[j]? = some (some s, .agg)) (hl : listed.getD j false = true)
    (hi : plan[i]? = some (none, .agg)) :
    wpOp Try.prog ops Q i (fun a' w' => Sv B A n c g gi gn gz gR gm gc w0 K0 N fixed plan bb br row bs X fuel (listed.setIfInBounds i true) a' w') a W := by
  obtain ⟨hd, hp, hg⟩ := viewOp_at hv ho
  have hx := h.fix _ ht
  have hx2 : a.tmps.getD s undef = .agg #[.int .i64 gi, .int .i64 gz, .int .i64 gn.1, .int .i64 gn.2, .slice gR gm gc] := h.slots j s _ hj hl
  have h' : a.tmps[t]?.getD undef = .pointer (some ⟨br, 0, none⟩) := by simpa using hx
  have h2' : a.tmps[s]?.getD undef = .agg #[.int .i64 gi, .int .i64 gz, .int .i64 gn.1, .int .i64 gn.2, .slice gR gm gc] := by simpa using hx2
  obtain ⟨cs, hcs, h4, _⟩ := h.res
  obtain ⟨k, hk, hc⟩ := h.cur
  have hgr := setL_grown [.int .i64 gi, .int .i64 gz, .int .i64 gn.1, .int .i64 gn.2, .slice gR gm gc] W br 0
  match cs, h4, hcs with
  | [z0, z1, z2, z3, z4], _, hcs =>
    have c0 := hcs.at_ 0 _ rfl
    have c1 := hcs.at_ 1 _ rfl
    have c2 := hcs.at_ 2 _ rfl
    have c3 := hcs.at_ 3 _ rfl
    have c4 := hcs.at_ 4 _ rfl
    have f0 := hcs.free 0
    have f1 := hcs.free 1
    have f2 := hcs.free 2
    have f3 := hcs.free 3
    have f4 := hcs.free 4
    have hrun : (execOp a.eval o).run Try.prog W = .ok .skip (setL W br 0 [.int .i64 gi, .int .i64 gz, .int .i64 gn.1, .int .i64 gn.2, .slice gR gm gc]) := by simp [execOp, hp, h', h2', c0, c1, c2, c3, c4, f0, f1, f2, f3, f4, go_sem, setL]
    refine op_skip ho hg hrun ?_
    rw [hd]
    refine ⟨h.size, h.defers, h.fix, fun j' d' K' hj' hl' => ?_, ⟨k, by omega, hc.kept hgr (fun e => hbr (Option.some.inj e).symm) (fun q e => by have := Option.some.inj e; omega)⟩, grown_new h.grown hgr hw0, has_grown h.box hgr (fun e => hbb (Option.some.inj e)), ⟨h.kept.2 _ _ br hgr (.inr (.inl rfl)) h.kept.1, h.kept.2⟩, ⟨h.low.1, fun q hq => Nat.lt_of_lt_of_le (h.low.2 q hq) hgr.size⟩, ⟨[.int .i64 gi, .int .i64 gz, .int .i64 gn.1, .int .i64 gn.2, .slice gR gm gc], layK5 hcs _ _ _ _ _, rfl, fun _ _ _ => rfl⟩, has_grown h.box2 hgr (fun e => h.ne2.2.2.1 (Option.some.inj e)), ?_, h.ne2⟩
    · by_cases e : j' = i
      · subst e; rw [hi] at hj'; cases hj'
      · rw [listed_other e] at hl'
        exact (h.slots j' d' K' hj' hl').on hgr (.inr h.low.1)
    · obtain ⟨cs2, hcs2, h42, hcv2⟩ := h.res2
      refine ⟨cs2, has_grown hcs2 hgr (fun e => h.ne2.2.2.2 (Option.some.inj e)), h42, fun j2 hj2 hl2 => ?_⟩
      by_cases e : j2 = i
      · subst e; rw [hi] at hj2; cases hj2
      · rw [listed_other e] at hl2
        exact hcv2 j2 hj2 hl2
theorem Sv.loadB (h : Sv B A n c g gi gn gz gR gm gc w0 K0 N fixed plan bb br row bs X (fuel + 1) listed a W) (hP : planB N (fixed.map (·.1)) plan = true) (hbb : bb ≠ g) (hbr : br ≠ g) (ho : ops[i]? = some o)
    {d t : Nat} (hv : viewOp ops i = some (some d, .load 64 (.tmp t), none)) (ht : (t, Value.pointer (some ⟨X.b2, 0, none⟩)) ∈ fixed) (hi : plan[i]? = some (some d, .agg2)) :
    wpOp Try.prog ops Q i (fun a' w' => Sv B A n c g gi gn gz gR gm gc w0 K0 N fixed plan bb br row bs X fuel (listed.setIfInBounds i true) a' w') a W := by
  obtain ⟨hd, hp, hg⟩ := viewOp_at hv ho
  have hx := h.fix _ ht
  have h' : a.tmps[t]?.getD undef = .pointer (some ⟨X.b2, 0, none⟩) := by simpa using hx
  have a0 := h.box2.at_ 0 _ rfl
  have a1 := h.box2.at_ 1 _ rfl
  have a2 := h.box2.at_ 2 _ rfl
  have a3 := h.box2.at_ 3 _ rfl
  have a4 := h.box2.at_ 4 _ rfl
  refine op_value ho hg (x := .agg X.cells.toArray) (W' := W) (by simp [execOp, hp, h', a0, a1, a2, a3, a4, go_sem, TwoB.cells]) ?_
  rw [hd]
  exact h.put hP hbb hbr hi rfl ⟨rfl, rfl, rfl, Nat.le_refl _, fun _ _ _ => rfl⟩ h.cur'
theorem Sv.storeB (h : Sv B A n c g gi gn gz gR gm gc w0 K0 N fixed plan bb br row bs X (fuel + 1) listed a W) (hbb : bb ≠ X.br2) (hb2 : X.b2 ≠ X.br2) (hB : B ≤ X.br2) (hw0 : w0.heap.size ≤ X.br2) (hbs : X.br2 ∈ bs) (ho : ops[i]? = some o)
    {t s j : Nat} (hv : viewOp ops i = some (none, .store 64 (.tmp t) (.tmp s), none)) (ht : (t, Value.pointer (some ⟨X.br2, 0, none⟩)) ∈ fixed) (hj : plan[j]? = some (some s, .agg2)) (hl : listed.getD j false = true)
    (hi : plan[i]? = some (none, .agg2)) :
    wpOp Try.prog ops Q i (fun a' w' => Sv B A n c g gi gn gz gR gm gc w0 K0 N fixed plan bb br row bs X fuel (listed.setIfInBounds i true) a' w') a W := by
  obtain ⟨hd, hp, hg⟩ := viewOp_at hv ho
  have hx := h.fix _ ht
  have hx2 : a.tmps.getD s undef = .agg X.cells.toArray := h.slots j s _ hj hl
  have h' : a.tmps[t]?.getD undef = .pointer (some ⟨X.br2, 0, none⟩) := by simpa using hx
  have h2' : a.tmps[s]?.getD undef = .agg X.cells.toArray := by simpa using hx2
  obtain ⟨cs, hcs, h4, _⟩ := h.res2
  obtain ⟨k, hk, hc⟩ := h.cur
  have hgr := setL_grown X.cells W X.br2 0
  match cs, h4, hcs with
  | [z0, z1, z2, z3, z4], _, hcs =>
    have c0 := hcs.at_ 0 _ rfl
    have c1 := hcs.at_ 1 _ rfl
    have c2 := hcs.at_ 2 _ rfl
    have c3 := hcs.at_ 3 _ rfl
    have c4 := hcs.at_ 4 _ rfl
    have f0 := hcs.free 0
    have f1 := hcs.free 1
    have f2 := hcs.free 2
    have f3 := hcs.free 3
    have f4 := hcs.free 4
    have hrun : (execOp a.eval o).run Try.prog W = .ok .skip (setL W X.br2 0 X.cells) := by simp [execOp, hp, h', h2', c0, c1, c2, c3, c4, f0, f1, f2, f3, f4, go_sem, setL, TwoB.cells]
    refine op_skip ho hg hrun ?_
    rw [hd]
    refine ⟨h.size, h.defers, h.fix, fun j' d' K' hj' hl' => ?_, ⟨k, by omega, hc.kept hgr (fun e => h.ne2.2.1 (Option.some.inj e).symm) (fun q e => by have := Option.some.inj e; omega)⟩, grown_new h.grown hgr hw0, has_grown h.box hgr (fun e => hbb (Option.some.inj e)), ⟨h.kept.2 _ _ X.br2 hgr (.inr (.inr rfl)) h.kept.1, h.kept.2⟩, ⟨h.low.1, fun q hq => Nat.lt_of_lt_of_le (h.low.2 q hq) hgr.size⟩, ?_, has_grown h.box2 hgr (fun e => hb2 (Option.some.inj e)), ⟨X.cells, layK5 hcs _ _ _ _ _, rfl, fun _ _ _ => rfl⟩, h.ne2⟩
    · by_cases e : j' = i
      · subst e; rw [hi] at hj'; cases hj'
      · rw [listed_other e] at hl'
        exact (h.slots j' d' K' hj' hl').on hgr (.inr hbs)
    · obtain ⟨cs2, hcs2, h42, hcv2⟩ := h.res
      refine ⟨cs2, has_grown hcs2 hgr (fun e => h.ne2.2.2.2 (Option.some.inj e).symm), h42, fun j2 hj2 hl2 => ?_⟩
      by_cases e : j2 = i
      · subst e; rw [hi] at hj2; cases hj2
      · rw [listed_other e] at hl2
        exact hcv2 j2 hj2 hl2
theorem Sv.amongR (h : Sv B A n c g gi gn gz gR gm gc w0 K0 N fixed plan bb br row bs X (fuel + 1) listed a W) (hK : K0 ≤ 900000) (hP : planB N (fixed.map (·.1)) plan = true) (hbb : bb ≠ g) (hbr : br ≠ g) (ho : ops[i]? = some o)
    {d t s j j' : Nat} {xs : List Int} (h1 : 1 < xs.length) (hxs : xs.length ≤ 100) {ts : Array TypeId} (hv : viewOp ops i = some (some d, .call { callee := .value (.func 84), args := #[.tmp t, .tmp s], argTypes := ts }, none)) (hj : plan[j]? = some (some t, .ptr)) (hl : listed.getD j false = true)
    (hj' : plan[j']? = some (some s, .row xs)) (hl' : listed.getD j' false = true) (hi : plan[i]? = some (some d, .any)) :
    wpOp Try.prog ops Q i (fun a' w' => Sv B A n c g gi gn gz gR gm gc w0 K0 N fixed plan bb br row bs X fuel (listed.setIfInBounds i true) a' w') a W := by
  obtain ⟨hd, hp, hg⟩ := viewOp_at hv ho
  have hx : a.tmps.getD t undef = .pointer (some ⟨g, 0, none⟩) := h.slots j t _ hj hl
  obtain ⟨b, hx2, hb, _, hh⟩ := h.slots j' s _ hj' hl'
  have h' : a.tmps[t]?.getD undef = .pointer (some ⟨g, 0, none⟩) := by simpa using hx
  have h2' : a.tmps[s]?.getD undef = .slice (some ⟨b, 0, none⟩) xs.length xs.length := by simpa using hx2
  obtain ⟨k, hk, hc⟩ := h.cur
  refine op_call ho hg (f := 84) (args := #[.pointer (some ⟨g, 0, none⟩), .slice (some ⟨b, 0, none⟩) xs.length xs.length]) (by simp [execOp, hp, h', h2', go_sem, enter_any Try.func84 (by kernel_rfl) (by kernel_rfl)]) (among_pre B A n c g k b xs.length xs.length xs W hc (by omega) h1 (Nat.le_refl _) (by omega) hh hb) ?_
  rintro e w' ⟨y, _, rfl, hc', hg'⟩
  refine ⟨_, rfl, ?_⟩
  rw [hd]
  exact h.put hP hbb hbr hi ⟨y, rfl⟩ hg' ⟨k + 1, by omega, hc'⟩
theorem Sv.field (h : Sv B A n c g gi gn gz gR gm gc w0 K0 N fixed plan bb br row bs X (fuel + 1) listed a W) (hP : planB N (fixed.map (·.1)) plan = true) (hbb : bb ≠ g) (hbr : br ≠ g) (ho : ops[i]? = some o)
    {d t : Nat} (hv : viewOp ops i = some (some d, .fieldAddr 64 (.tmp t) 3, none)) (ht : (t, Value.pointer (some ⟨bb, 0, none⟩)) ∈ fixed) (hi : plan[i]? = some (some d, .fld)) :
    wpOp Try.prog ops Q i (fun a' w' => Sv B A n c g gi gn gz gR gm gc w0 K0 N fixed plan bb br row bs X fuel (listed.setIfInBounds i true) a' w') a W := by
  obtain ⟨hd, hp, hg⟩ := viewOp_at hv ho
  have hx := h.fix _ ht
  have h' : a.tmps[t]?.getD undef = .pointer (some ⟨bb, 0, none⟩) := by simpa using hx
  refine op_value ho hg (x := .pointer (some ⟨bb, 4, none⟩)) (W' := W) (by simp [execOp, hp, h', go_sem]) ?_
  rw [hd]
  exact h.put hP hbb hbr hi rfl ⟨rfl, rfl, rfl, Nat.le_refl _, fun _ _ _ => rfl⟩ h.cur'
theorem Sv.loadV (h : Sv B A n c g gi gn gz gR gm gc w0 K0 N fixed plan bb br row bs X (fuel + 1) listed a W) (hP : planB N (fixed.map (·.1)) plan = true) (hbb : bb ≠ g) (hbr : br ≠ g) (ho : ops[i]? = some o)
    {d t j : Nat} (hv : viewOp ops i = some (some d, .load 62 (.tmp t), none)) (hj : plan[j]? = some (some t, .fld)) (hl : listed.getD j false = true) (hi : plan[i]? = some (some d, .val)) :
    wpOp Try.prog ops Q i (fun a' w' => Sv B A n c g gi gn gz gR gm gc w0 K0 N fixed plan bb br row bs X fuel (listed.setIfInBounds i true) a' w') a W := by
  obtain ⟨hd, hp, hg⟩ := viewOp_at hv ho
  have hx : a.tmps.getD t undef = .pointer (some ⟨bb, 4, none⟩) := h.slots j t _ hj hl
  have h' : a.tmps[t]?.getD undef = .pointer (some ⟨bb, 4, none⟩) := by simpa using hx
  have a3 := h.box.at_ 4 _ rfl
  refine op_value ho hg (x := .slice gR gm gc) (W' := W) (by simp [execOp, hp, h', a3, go_sem]) ?_
  rw [hd]
  exact h.put hP hbb hbr hi rfl ⟨rfl, rfl, rfl, Nat.le_refl _, fun _ _ _ => rfl⟩ h.cur'
theorem Sv.len (h : Sv B A n c g gi gn gz gR gm gc w0 K0 N fixed plan bb br row bs X (fuel + 1) listed a W) (hP : planB N (fixed.map (·.1)) plan = true) (hbb : bb ≠ g) (hbr : br ≠ g) (ho : ops[i]? = some o)
    {d t j : Nat} (hv : viewOp ops i = some (some d, .call { callee := .builtin .len, args := #[.tmp t], argTypes := #[62] }, none)) (hj : plan[j]? = some (some t, .val)) (hl : listed.getD j false = true) (hi : plan[i]? = some (some d, .cnt)) :
    wpOp Try.prog ops Q i (fun a' w' => Sv B A n c g gi gn gz gR gm gc w0 K0 N fixed plan bb br row bs X fuel (listed.setIfInBounds i true) a' w') a W := by
  obtain ⟨hd, hp, hg⟩ := viewOp_at hv ho
  have hx : a.tmps.getD t undef = .slice gR gm gc := h.slots j t _ hj hl
  have h' : a.tmps[t]?.getD undef = .slice gR gm gc := by simpa using hx
  refine op_value ho hg (x := .int .i64 gm) (W' := W) (by simp [execOp, hp, h', go_sem]) ?_
  rw [hd]
  exact h.put hP hbb hbr hi rfl ⟨rfl, rfl, rfl, Nat.le_refl _, fun _ _ _ => rfl⟩ h.cur'
theorem Sv.pickV (h : Sv B A n c g gi gn gz gR gm gc w0 K0 N fixed plan bb br row bs X (fuel + 1) listed a W) (hK : K0 ≤ 900000) (hm : 0 < gm) (hm2 : gm ≤ 200) (hP : planB N (fixed.map (·.1)) plan = true) (hbb : bb ≠ g) (hbr : br ≠ g) (ho : ops[i]? = some o)
    {d t s j j' : Nat} {ts : Array TypeId} (hv : viewOp ops i = some (some d, .call { callee := .value (.func 118), args := #[.tmp t, .tmp s], argTypes := ts }, none)) (hj : plan[j]? = some (some t, .ptr)) (hl : listed.getD j false = true)
    (hj' : plan[j']? = some (some s, .cnt)) (hl' : listed.getD j' false = true) (hi : plan[i]? = some (some d, .ix)) :
    wpOp Try.prog ops Q i (fun a' w' => Sv B A n c g gi gn gz gR gm gc w0 K0 N fixed plan bb br row bs X fuel (listed.setIfInBounds i true) a' w') a W := by
  obtain ⟨hd, hp, hg⟩ := viewOp_at hv ho
  have hx : a.tmps.getD t undef = .pointer (some ⟨g, 0, none⟩) := h.slots j t _ hj hl
  have hx2 : a.tmps.getD s undef = .int .i64 gm := h.slots j' s _ hj' hl'
  have h' : a.tmps[t]?.getD undef = .pointer (some ⟨g, 0, none⟩) := by simpa using hx
  have h2' : a.tmps[s]?.getD undef = .int .i64 gm := by simpa using hx2
  obtain ⟨k, hk, hc⟩ := h.cur
  refine op_call ho hg (f := 118) (args := #[.pointer (some ⟨g, 0, none⟩), .int .i64 gm]) (by simp [execOp, hp, h', h2', go_sem, enter_any Try.func118 (by kernel_rfl) (by kernel_rfl)]) (pick_ge1 B A n c g k gm W hc (by omega) hm hm2) ?_
  rintro e w' ⟨q, k', hq, _, hk2, rfl, hc', hg'⟩
  refine ⟨_, rfl, ?_⟩
  rw [hd]
  exact h.put hP hbb hbr hi ⟨q, hq, rfl⟩ hg' ⟨k', by omega, hc'⟩
theorem Sv.index (h : Sv B A n c g gi gn gz gR gm gc w0 K0 N fixed plan bb br row bs X (fuel + 1) listed a W) {gb : Nat} (hR : gR = some ⟨gb, 0, none⟩) (hP : planB N (fixed.map (·.1)) plan = true) (hbb : bb ≠ g) (hbr : br ≠ g) (ho : ops[i]? = some o)
    {d t s j j' : Nat} (hv : viewOp ops i = some (some d, .indexAddr 62 (.tmp t) (.tmp s), none)) (hj : plan[j]? = some (some t, .val)) (hl : listed.getD j false = true)
    (hj' : plan[j']? = some (some s, .ix)) (hl' : listed.getD j' false = true) (hi : plan[i]? = some (some d, .el)) :
    wpOp Try.prog ops Q i (fun a' w' => Sv B A n c g gi gn gz gR gm gc w0 K0 N fixed plan bb br row bs X fuel (listed.setIfInBounds i true) a' w') a W := by
  obtain ⟨hd, hp, hg⟩ := viewOp_at hv ho
  subst hR
  have hx : a.tmps.getD t undef = .slice (some ⟨gb, 0, none⟩) gm gc := h.slots j t _ hj hl
  obtain ⟨r, hr, hx2⟩ := h.slots j' s _ hj' hl'
  have h' : a.tmps[t]?.getD undef = .slice (some ⟨gb, 0, none⟩) gm gc := by simpa using hx
  have h2' : a.tmps[s]?.getD undef = .int .i64 r := by simpa using hx2
  refine op_value ho hg (x := .pointer (some ⟨gb, r * 2, none⟩)) (W' := W) (by simp [execOp, hp, h', h2', go_sem, hr]) ?_
  rw [hd]
  exact h.put hP hbb hbr hi ⟨gb, r, rfl, hr, rfl⟩ ⟨rfl, rfl, rfl, Nat.le_refl _, fun _ _ _ => rfl⟩ h.cur'
theorem Sv.field0 (h : Sv B A n c g gi gn gz gR gm gc w0 K0 N fixed plan bb br row bs X (fuel + 1) listed a W) (hP : planB N (fixed.map (·.1)) plan = true) (hbb : bb ≠ g) (hbr : br ≠ g) (ho : ops[i]? = some o)
    {d t j : Nat} (hv : viewOp ops i = some (some d, .fieldAddr 140 (.tmp t) 0, none)) (hj : plan[j]? = some (some t, .el)) (hl : listed.getD j false = true) (hi : plan[i]? = some (some d, .el)) :
    wpOp Try.prog ops Q i (fun a' w' => Sv B A n c g gi gn gz gR gm gc w0 K0 N fixed plan bb br row bs X fuel (listed.setIfInBounds i true) a' w') a W := by
  obtain ⟨hd, hp, hg⟩ := viewOp_at hv ho
  obtain ⟨gb, r, hR, hr, hx⟩ := h.slots j t _ hj hl
  have h' : a.tmps[t]?.getD undef = .pointer (some ⟨gb, r * 2, none⟩) := by simpa using hx
  refine op_value ho hg (x := .pointer (some ⟨gb, r * 2, none⟩)) (W' := W) (by simp [execOp, hp, h', go_sem]) ?_
  rw [hd]
  exact h.put hP hbb hbr hi ⟨gb, r, hR, hr, rfl⟩ ⟨rfl, rfl, rfl, Nat.le_refl _, fun _ _ _ => rfl⟩ h.cur'
theorem Sv.loadI (h : Sv B A n c g gi gn gz gR gm gc w0 K0 N fixed plan bb br row bs X (fuel + 1) listed a W) (hrow : ∀ X, row X → ∀ gb r : Nat, gR = some ⟨gb, 0, none⟩ → r < gm → ∃ y, X.cell? ⟨gb, r * 2, none⟩ = some (.int .i64 y)) (hP : planB N (fixed.map (·.1)) plan = true) (hbb : bb ≠ g) (hbr : br ≠ g) (ho : ops[i]? = some o)
    {d t j : Nat} (hv : viewOp ops i = some (some d, .load 3 (.tmp t), none)) (hj : plan[j]? = some (some t, .el)) (hl : listed.getD j false = true) (hi : plan[i]? = some (some d, .any)) :
    wpOp Try.prog ops Q i (fun a' w' => Sv B A n c g gi gn gz gR gm gc w0 K0 N fixed plan bb br row bs X fuel (listed.setIfInBounds i true) a' w') a W := by
  obtain ⟨hd, hp, hg⟩ := viewOp_at hv ho
  obtain ⟨gb, r, hR, hr, hx⟩ := h.slots j t _ hj hl
  have h' : a.tmps[t]?.getD undef = .pointer (some ⟨gb, r * 2, none⟩) := by simpa using hx
  obtain ⟨y, hc⟩ := hrow W h.kept.1 gb r hR hr
  refine op_value ho hg (x := .int .i64 y) (W' := W) (by simp [execOp, hp, h', hc, go_sem]) ?_
  rw [hd]
  exact h.put hP hbb hbr hi ⟨y, rfl⟩ ⟨rfl, rfl, rfl, Nat.le_refl _, fun _ _ _ => rfl⟩ h.cur'
theorem Sv.pick2 (h : Sv B A n c g gi gn gz gR gm gc w0 K0 N fixed plan bb br row bs X (fuel + 1) listed a W) (hP : planB N (fixed.map (·.1)) plan = true) (hbb : bb ≠ g) (hbr : br ≠ g) (ho : ops[i]? = some o) (hK : K0 ≤ 900000)
    {d t j : Nat} {ts : Array TypeId} (hv : viewOp ops i = some (some d, .call { callee := .value (.func 118), args := #[.tmp t, .const (.int .i64 2)], argTypes := ts }, none)) (hj : plan[j]? = some (some t, .ptr)) (hl : listed.getD j false = true) (hi : plan[i]? = some (some d, .num 0 1)) :
    wpOp Try.prog ops Q i (fun a' w' => Sv B A n c g gi gn gz gR gm gc w0 K0 N fixed plan bb br row bs X fuel (listed.setIfInBounds i true) a' w') a W := by
  obtain ⟨hd, hp, hg⟩ := viewOp_at hv ho
  have hx : a.tmps.getD t undef = .pointer (some ⟨g, 0, none⟩) := h.slots j t _ hj hl
  have h' : a.tmps[t]?.getD undef = .pointer (some ⟨g, 0, none⟩) := by simpa using hx
  obtain ⟨k, hk, hc⟩ := h.cur
  refine op_call ho hg (f := 118) (args := #[.pointer (some ⟨g, 0, none⟩), .int .i64 2]) (by simp [execOp, hp, h', go_sem, enter_any Try.func118 (by kernel_rfl) (by kernel_rfl)]) (pick_any B A n c g k 2 W hc (by omega) (by decide) (by decide)) ?_
  rintro e w' ⟨q, hq, rfl, hc', hg'⟩
  refine ⟨_, rfl, ?_⟩
  rw [hd]
  exact h.put hP hbb hbr hi ⟨q, rfl, by omega, by omega⟩ hg' ⟨k + 1, by omega, hc'⟩
theorem Sv.add8 (h : Sv B A n c g gi gn gz gR gm gc w0 K0 N fixed plan bb br row bs X (fuel + 1) listed a W) (hP : planB N (fixed.map (·.1)) plan = true) (hbb : bb ≠ g) (hbr : br ≠ g) (ho : ops[i]? = some o)
    {d t j : Nat} (hv : viewOp ops i = some (some d, .binOp .add 3 (.const (.int .i64 8)) (.tmp t) 3, none)) (hj : plan[j]? = some (some t, .num 0 1)) (hl : listed.getD j false = true) (hi : plan[i]? = some (some d, .num 8 9)) :
    wpOp Try.prog ops Q i (fun a' w' => Sv B A n c g gi gn gz gR gm gc w0 K0 N fixed plan bb br row bs X fuel (listed.setIfInBounds i true) a' w') a W := by
  obtain ⟨hd, hp, hg⟩ := viewOp_at hv ho
  obtain ⟨q, hx, _, hq⟩ := h.slots j t _ hj hl
  have h' : a.tmps[t]?.getD undef = .int .i64 q := by simpa using hx
  have hw : IntKind.i64.wrap (8 + (q : Int)) = 8 + (q : Int) := IntWalk.i64_in _ (by omega)
  refine op_value ho hg (x := .int .i64 (8 + (q : Int))) (W' := W) (by simp [execOp, hp, h', go_sem, hw]) ?_
  rw [hd]
  exact h.put hP hbb hbr hi ⟨8 + q, by simp, by omega, by omega⟩ ⟨rfl, rfl, rfl, Nat.le_refl _, fun _ _ _ => rfl⟩ h.cur'
theorem Sv.less (h : Sv B A n c g gi gn gz gR gm gc w0 K0 N fixed plan bb br row bs X (fuel + 1) listed a W) (hP : planB N (fixed.map (·.1)) plan = true) (hbb : bb ≠ g) (hbr : br ≠ g) (ho : ops[i]? = some o)
    {d t s j j' : Nat} (hv : viewOp ops i = some (some d, .binOp .lss 3 (.tmp t) (.tmp s) 3, none)) (hj : plan[j]? = some (some t, .cnt)) (hl : listed.getD j false = true) (hj' : plan[j']? = some (some s, .num 8 9)) (hl' : listed.getD j' false = true) (hi : plan[i]? = some (some d, .less)) :
    wpOp Try.prog ops Q i (fun a' w' => Sv B A n c g gi gn gz gR gm gc w0 K0 N fixed plan bb br row bs X fuel (listed.setIfInBounds i true) a' w') a W := by
  obtain ⟨hd, hp, hg⟩ := viewOp_at hv ho
  have hx : a.tmps.getD t undef = .int .i64 gm := h.slots j t _ hj hl
  obtain ⟨q, hx2, _, hq⟩ := h.slots j' s _ hj' hl'
  have h' : a.tmps[t]?.getD undef = .int .i64 gm := by simpa using hx
  have h2' : a.tmps[s]?.getD undef = .int .i64 q := by simpa using hx2
  refine op_value ho hg (x := .bool (decide ((gm : Int) < q))) (W' := W) (by simp [execOp, hp, h', h2', go_sem]) ?_
  rw [hd]
  exact h.put hP hbb hbr hi ⟨_, rfl, fun e => by have := of_decide_eq_true e; omega⟩ ⟨rfl, rfl, rfl, Nat.le_refl _, fun _ _ _ => rfl⟩ h.cur'
/-- A call of a draw that hands back a number. -/
theorem Sv.draws (h : Sv B A n c g gi gn gz gR gm gc w0 K0 N fixed plan bb br row bs X (fuel + 1) listed a W) (hP : planB N (fixed.map (·.1)) plan = true) (hbb : bb ≠ g) (hbr : br ≠ g) (ho : ops[i]? = some o) {f : FuncId} {fn : Func} (hf : Try.prog.funcs[f]? = some fn) (hn : (fn.name == "runtime.NumGoroutine") = false) (hb : fn.body.isNone = false)
    (hcall : ∀ (k : Nat) (W : World), k + 3 ≤ K0 → Cur B A n c g k W → Calls Try.prog f #[.pointer (some ⟨g, 0, none⟩)] W (fun e w' => ∃ (x : Int) (k' : Nat), k' ≤ k + 3 ∧ e = .returned (.int .i64 x) ∧ Cur B A n c g k' w' ∧ W.grownBy w' (some g)))
    {d t j : Nat} {ts : Array TypeId} (hv : viewOp ops i = some (some d, .call { callee := .value (.func f), args := #[.tmp t], argTypes := ts }, none)) (hj : plan[j]? = some (some t, .ptr)) (hl : listed.getD j false = true) (hi : plan[i]? = some (some d, .any)) :
    wpOp Try.prog ops Q i (fun a' w' => Sv B A n c g gi gn gz gR gm gc w0 K0 N fixed plan bb br row bs X fuel (listed.setIfInBounds i true) a' w') a W := by
  obtain ⟨hd, hp, hg⟩ := viewOp_at hv ho
  have hx : a.tmps.getD t undef = .pointer (some ⟨g, 0, none⟩) := h.slots j t _ hj hl
  have h' : a.tmps[t]?.getD undef = .pointer (some ⟨g, 0, none⟩) := by simpa using hx
  obtain ⟨k, hk, hc⟩ := h.cur
  refine op_call ho hg (f := f) (args := #[.pointer (some ⟨g, 0, none⟩)]) (by simp [execOp, hp, h', go_sem, enter_any hf hn hb]) (hcall k W (by omega) hc) ?_
  rintro e w' ⟨x, k', hk', rfl, hc', hg'⟩
  refine ⟨_, rfl, ?_⟩
  rw [hd]
  exact h.put hP hbb hbr hi ⟨x, rfl⟩ hg' ⟨k', by omega, hc'⟩
end
end Go.Proofs.Ytdmnkmdlochogab
