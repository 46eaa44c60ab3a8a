/-
  Regions that draw a layer and append it to a cast's row in whatever order: what each kind of operation keeps. Conditions: stated at each theorem.
-/
import Derived.Test.YtdmnkmdlochogabDv
import Derived.Test.YtdmnkmdlochogabZd
namespace Go.Proofs.Ytdmnkmdlochogab
open Go.RowKit Go.Sort

theorem rep_no' {m i : Nat} (h : (Array.replicate m false).getD i false = true) : False := by
  rw [Array.getD_eq_getD_getElem?] at h
  by_cases hi : i < m <;> simp [hi] at h
theorem Cur.drew_' {B : Nat} {A : Option Addr} {n c g k : Nat} {w : World} (h : Cur B A n c g k w) : Cur B A n c g k w.drew := ⟨h.code, h.pos, h.seed, h.free1, h.free2, h.row, h.old, h.lt⟩
theorem own_drew {W : World} {base T z n : Nat} {v : Value} {xs : List Value} (h : W.ownsRow base T z v n xs) : W.drew.ownsRow base T z v n xs := h
/-- What a slot of such a region holds once its operation has come up. -/
inductive Kg where
  | ptr
  | row (xs : List Int)
  | any
  | fld
  | old
  | rd
  | one
  | app
section
variable (g bb base : Nat) (R : Option Addr) (m cap : Nat) (l : List (Int × Int))
/-- The row's own block. -/
def rbk : Option Nat := (Value.slice R m cap).ownBlock
/-- A value that is the row with one reading more. -/
def AppW (W : World) (x : Value) : Prop :=
  ∃ (R' : Option Addr) (cap' : Nat) (t y : Int), x = .slice R' (m + 1) cap' ∧ W.ownsRow base 140 2 x (m + 1) (cells2 (l ++ [(t, y)]))
def FitsG (W : World) : Kg → Value → Prop
  | .ptr, x => x = .pointer (some ⟨g, 0, none⟩)
  | .row xs, x => ∃ b, x = .slice (some ⟨b, 0, none⟩) xs.length xs.length ∧ b ≠ g ∧ b ≠ bb ∧ some b ≠ rbk R m cap ∧ Has W b (xs.map (Value.int .i64))
  | .any, x => ∃ y, x = .int .i64 y
  | .fld, x => x = .pointer (some ⟨bb, 4, none⟩)
  | .old, x => x = .slice R m cap
  | .rd, x => ∃ t y, x = .agg #[.int .i64 t, .int .i64 y]
  | .one, x => ∃ b t y, x = .slice (some ⟨b, 0, none⟩) 1 1 ∧ b ≠ g ∧ b ≠ bb ∧ some b ≠ rbk R m cap ∧ Has W b [.int .i64 t, .int .i64 y]
  | .app, x => AppW base m l W x
end
section
variable {g bb base : Nat} {R : Option Addr} {m cap : Nat} {l : List (Int × Int)} {W W' : World}
theorem AppW.on {x : Value} (h : AppW base m l W x) {r : Option Nat} (hg : W.grownBy W' r) (hr : ∀ q, r = some q → q < base) : AppW base m l W' x := by
  obtain ⟨R', cap', t, y, hx, ho⟩ := h
  exact ⟨R', cap', t, y, hx, own_any ho hg hr⟩
/-- What the slots hold stays where the reader's block, the gauge's block or nothing of what was there turns. -/
theorem FitsG.on {K : Kg} {x : Value} (h : FitsG g bb base R m cap l W K x) {r : Option Nat} (hg : W.grownBy W' r) (hr : r = none ∨ r = some g ∨ r = some bb) (hgb : g < base) (hbb : bb < base) : FitsG g bb base R m cap l W' K x := by
  cases K with
  | row xs =>
    obtain ⟨b, hx, h1, h2, h3, hh⟩ := h
    exact ⟨b, hx, h1, h2, h3, has_grown hh hg (fun e => by
      rcases hr with rfl | rfl | rfl
      · cases e
      · exact h1 (Option.some.inj e)
      · exact h2 (Option.some.inj e))⟩
  | one =>
    obtain ⟨b, t, y, hx, h1, h2, h3, hh⟩ := h
    exact ⟨b, t, y, hx, h1, h2, h3, has_grown hh hg (fun e => by
      rcases hr with rfl | rfl | rfl
      · cases e
      · exact h1 (Option.some.inj e)
      · exact h2 (Option.some.inj e))⟩
  | app =>
    refine AppW.on h hg fun q e => ?_
    rcases hr with rfl | rfl | rfl
    · cases e
    · have := Option.some.inj e; omega
    · have := Option.some.inj e; omega
  | _ => exact h
end
def planG (N : Nat) (plan : List (Option Nat × Kg)) : Bool :=
  (List.range plan.length).all fun i => match (plan[i]?).bind (·.1) with
    | none => true
    | some d => decide (d < N) && (List.range plan.length).all fun j => j == i || (match (plan[j]?).bind (·.1) with | none => true | some d' => d' != d)
def planFree (plan : List (Option Nat × Kg)) (s : Nat) : Bool := plan.all fun p => match p.1 with | none => true | some d => d != s
theorem planFree_at {plan : List (Option Nat × Kg)} {s : Nat} (h : planFree plan s = true) {i d : Nat} {K : Kg} (hi : plan[i]? = some (some d, K)) : d ≠ s := by
  have := List.all_eq_true.1 h _ (List.mem_of_getElem? hi)
  simpa using this
theorem planG_at {N : Nat} {plan : List (Option Nat × Kg)} (h : planG N plan = true) {i d : Nat} {K : Kg} (hi : plan[i]? = some (some d, K)) :
    d < N ∧ ∀ j d' K', plan[j]? = some (some d', K') → j ≠ i → d' ≠ d := by
  have hl := (List.getElem?_eq_some_iff.1 hi).1
  have h1 := List.all_eq_true.1 h i (by simpa using hl)
  simp only [hi, Option.bind_some] at h1
  rw [Bool.and_eq_true] at h1
  refine ⟨of_decide_eq_true h1.1, fun j d' K' hj hji hd => ?_⟩
  have hlj := (List.getElem?_eq_some_iff.1 hj).1
  have h2 := List.all_eq_true.1 h1.2 j (by simpa using hlj)
  simp only [hj, Option.bind_some] at h2
  rw [Bool.or_eq_true] at h2
  rcases h2 with h2 | h2
  · exact hji (by simpa using h2)
  · simp [hd] at h2
/-- Only the append's slot holds a longer row. -/
def onlyApp (plan : List (Option Nat × Kg)) (ia : Nat) : Bool := (List.range plan.length).all fun j => j == ia || (match (plan[j]?).map Prod.snd with | some Kg.app => false | _ => true)
theorem onlyApp_at {plan : List (Option Nat × Kg)} {ia j d : Nat} (h : onlyApp plan ia = true) (hj : plan[j]? = some (some d, .app)) : j = ia := by
  have hl := (List.getElem?_eq_some_iff.1 hj).1
  have h1 := List.all_eq_true.1 h j (by simpa using hl)
  simpa [hj] using h1
section
variable (B : Nat) (A : Option Addr) (n c g : Nat) (w0 : World) (K0 N : Nat) (T0 : Array Value) (plan : List (Option Nat × Kg)) (bb br base s0 : Nat) (id ze : Int) (nm : Int × Int) (R : Option Addr) (m cap : Nat) (l : List (Int × Int)) (zs : List Value) (il ia ic : Nat)
/-- What holds before and after each operation of the region; ia: the number of the append, ic: of the store. -/
structure Sg (fuel : Nat) (listed : Array Bool) (a : Act) (W : World) : Prop where
  size : a.tmps.size = N
  defers : a.defers = []
  same : ∀ s, planFree plan s = true → a.tmps.getD s undef = T0.getD s undef
  slots : ∀ i d K, plan[i]? = some (some d, K) → listed.getD i false = true → FitsG g bb base R m cap l W K (a.tmps.getD d undef)
  cur : ∃ k, k + fuel ≤ K0 ∧ Cur B A n c g k W
  grown : w0.grownBy W (some g)
  box : ∃ x, Has W bb [.int .i64 id, .int .i64 ze, .int .i64 nm.1, .int .i64 nm.2, x] ∧ (listed.getD ic false = false → x = .slice R m cap) ∧ (listed.getD ic false = true → AppW base m l W x)
  ord : (listed.getD ic false = true → listed.getD ia false = true) ∧ (listed.getD ia false = true → listed.getD il false = true)
  own : listed.getD ia false = false → W.ownsRow base 140 2 (.slice R m cap) m (cells2 l)
  res : Has W br zs
  wide : s0 ≤ W.heap.size
end
section
variable {B : Nat} {A : Option Addr} {n c g : Nat} {w0 : World} {K0 N : Nat} {T0 : Array Value} {plan : List (Option Nat × Kg)} {bb br base s0 : Nat} {id ze : Int} {nm : Int × Int} {R : Option Addr} {m cap : Nat} {l : List (Int × Int)} {zs : List Value} {il ia ic : Nat} {fuel : Nat} {listed : Array Bool} {a : Act} {W W' : World} {Q : Exit → Act → World → Prop} {ops : Array Oper} {i : Nat} {o : Oper}
/-- The standing facts on the numbers of the blocks. -/
structure Lie (B g bb br base : Nat) (w0 : World) : Prop where
  gb : g < base
  bb' : bb < base
  brb : br < base
  ne1 : bb ≠ g
  ne2 : br ≠ g
  ne3 : br ≠ bb
  w0b : w0.heap.size ≤ bb
  Bb : B ≤ bb
theorem rbk_base (h : W.ownsRow base 140 2 (.slice R m cap) m (cells2 l)) : ∀ q, rbk R m cap = some q → base ≤ q ∧ q < W.heap.size := fun q e => World.ownsRow.lt h q e
theorem listed_self {j : Nat} (h : listed.getD j false = true) : (listed.setIfInBounds j true).getD j false = true := by
  by_cases hj : j < listed.size
  · simp [hj]
  · simp [hj] at h
theorem Sg.put (h : Sg B A n c g w0 K0 N T0 plan bb br base s0 id ze nm R m cap l zs il ia ic (fuel + 1) listed a W) (hP : planG N plan = true) (hL : Lie B g bb br base w0) {d : Nat} {K : Kg} {x : Value} (hi : plan[i]? = some (some d, K)) (hia : i ≠ ia) (hic : i ≠ ic)
    (hf : FitsG g bb base R m cap l W' K x) {r : Option Nat} (hg : W.grownBy W' r) (hr : r = none ∨ r = some g) (hc : ∃ k, k + fuel ≤ K0 ∧ Cur B A n c g k W') :
    Sg B A n c g w0 K0 N T0 plan bb br base s0 id ze nm R m cap l zs il ia ic fuel (listed.setIfInBounds i true) (a.put (some d) x) W' := by
  obtain ⟨hd, hother⟩ := planG_at hP hi
  have hsz := h.size
  have hgg : W.grownBy W' (some g) := by
    rcases hr with rfl | rfl
    · exact ⟨hg.os, hg.tape, hg.output, hg.size, fun k hk _ => hg.block k hk (by simp)⟩
    · exact hg
  refine ⟨by simpa [Act.put] using hsz, h.defers, fun s hs => ?_, fun j d' K' hj hl => ?_, hc, grown_trans h.grown hgg, ?_, ⟨fun hl => ?_, fun hl => ?_⟩, fun hl => ?_, has_grown h.res hgg (fun e => hL.ne2 (Option.some.inj e)), Nat.le_trans h.wide hgg.size⟩
  · have hne : d ≠ s := planFree_at hs hi
    show (a.tmps.setIfInBounds d x).getD s undef = _
    rw [getD_put _ hne]
    exact h.same s hs
  · show FitsG g bb base R m cap l W' K' ((a.tmps.setIfInBounds d x).getD d' undef)
    by_cases e : j = i
    · subst e
      rw [hi] at hj
      obtain ⟨rfl, rfl⟩ : d = d' ∧ K = K' := by injection hj with h1; injection h1 with h2 h3; injection h2 with h2; exact ⟨h2, h3⟩
      have : (a.tmps.setIfInBounds d x).getD d undef = x := by simp [hsz, hd]
      rw [this]; exact hf
    · have hne := hother j d' K' hj e
      rw [getD_put _ (Ne.symm hne)]
      rw [listed_other e] at hl
      exact (h.slots j d' K' hj hl).on hgg (.inr (.inl rfl)) hL.gb hL.bb'
  · obtain ⟨x, hx, h1, h2⟩ := h.box
    refine ⟨x, has_grown hx hgg (fun e => hL.ne1 (Option.some.inj e)), fun hl => ?_, fun hl => ?_⟩
    · rw [listed_other (Ne.symm hic)] at hl; exact h1 hl
    · rw [listed_other (Ne.symm hic)] at hl
      exact (h2 hl).on hgg (fun q e => by have := Option.some.inj e; have := hL.gb; omega)
  · rw [listed_other (Ne.symm hic)] at hl
    rw [listed_other (Ne.symm hia)]
    exact h.ord.1 hl
  · rw [listed_other (Ne.symm hia)] at hl
    have h1 := h.ord.2 hl
    by_cases e : il = i
    · subst e; exact listed_self h1
    · rw [listed_other e]; exact h1
  · rw [listed_other (Ne.symm hia)] at hl
    exact own_any (h.own hl) hgg (fun q e => by have := Option.some.inj e; have := hL.gb; omega)
theorem Sg.cur' (h : Sg B A n c g w0 K0 N T0 plan bb br base s0 id ze nm R m cap l zs il ia ic (fuel + 1) listed a W) : ∃ k, k + fuel ≤ K0 ∧ Cur B A n c g k W := by
  obtain ⟨k, hk, hc⟩ := h.cur
  exact ⟨k, by omega, hc⟩
theorem grown_none (W : World) : W.grownBy W none := ⟨rfl, rfl, rfl, Nat.le_refl _, fun _ _ _ => rfl⟩
theorem Sg.move (h : Sg B A n c g w0 K0 N T0 plan bb br base s0 id ze nm R m cap l zs il ia ic (fuel + 1) listed a W) (hP : planG N plan = true) (hL : Lie B g bb br base w0) (ho : ops[i]? = some o)
    {d t : Nat} (hv : viewOp ops i = some (some d, .move (.tmp t), none)) (hf : planFree plan t = true) (ht : T0.getD t undef = Value.pointer (some ⟨g, 0, none⟩)) (hi : plan[i]? = some (some d, .ptr)) (hia : i ≠ ia) (hic : i ≠ ic) :
    wpOp Try.prog ops Q i (fun a' w' => Sg B A n c g w0 K0 N T0 plan bb br base s0 id ze nm R m cap l zs il ia ic fuel (listed.setIfInBounds i true) a' w') a W := by
  obtain ⟨hd, hp, hg⟩ := viewOp_at hv ho
  have hx := (h.same t hf).trans ht
  have h' : a.tmps[t]?.getD undef = .pointer (some ⟨g, 0, none⟩) := by simpa using hx
  refine op_value ho hg (x := .pointer (some ⟨g, 0, none⟩)) (W' := W) (by simp [execOp, hp, h', go_sem]) ?_
  rw [hd]
  exact h.put hP hL hi hia hic rfl (grown_none W) (.inl rfl) h.cur'
theorem Sg.moveI (h : Sg B A n c g w0 K0 N T0 plan bb br base s0 id ze nm R m cap l zs il ia ic (fuel + 1) listed a W) (hP : planG N plan = true) (hL : Lie B g bb br base w0) (ho : ops[i]? = some o)
    {d t : Nat} {y : Int} (hv : viewOp ops i = some (some d, .move (.tmp t), none)) (hf : planFree plan t = true) (ht : T0.getD t undef = Value.int .i64 y) (hi : plan[i]? = some (some d, .any)) (hia : i ≠ ia) (hic : i ≠ ic) :
    wpOp Try.prog ops Q i (fun a' w' => Sg B A n c g w0 K0 N T0 plan bb br base s0 id ze nm R m cap l zs il ia ic fuel (listed.setIfInBounds i true) a' w') a W := by
  obtain ⟨hd, hp, hg⟩ := viewOp_at hv ho
  have hx := (h.same t hf).trans ht
  have h' : a.tmps[t]?.getD undef = .int .i64 y := by simpa using hx
  refine op_value ho hg (x := .int .i64 y) (W' := W) (by simp [execOp, hp, h', go_sem]) ?_
  rw [hd]
  exact h.put hP hL hi hia hic ⟨y, rfl⟩ (grown_none W) (.inl rfl) h.cur'
theorem Sg.field (h : Sg B A n c g w0 K0 N T0 plan bb br base s0 id ze nm R m cap l zs il ia ic (fuel + 1) listed a W) (hP : planG N plan = true) (hL : Lie B g bb br base w0) (ho : ops[i]? = some o)
    {d t : Nat} (hv : viewOp ops i = some (some d, .fieldAddr 64 (.tmp t) 3, none)) (hf : planFree plan t = true) (ht : T0.getD t undef = Value.pointer (some ⟨bb, 0, none⟩)) (hi : plan[i]? = some (some d, .fld)) (hia : i ≠ ia) (hic : i ≠ ic) :
    wpOp Try.prog ops Q i (fun a' w' => Sg B A n c g w0 K0 N T0 plan bb br base s0 id ze nm R m cap l zs il ia ic fuel (listed.setIfInBounds i true) a' w') a W := by
  obtain ⟨hd, hp, hg⟩ := viewOp_at hv ho
  have hx := (h.same t hf).trans ht
  have h' : a.tmps[t]?.getD undef = .pointer (some ⟨bb, 0, none⟩) := by simpa using hx
  refine op_value ho hg (x := .pointer (some ⟨bb, 4, none⟩)) (W' := W) (by simp [execOp, hp, h', go_sem]) ?_
  rw [hd]
  exact h.put hP hL hi hia hic rfl (grown_none W) (.inl rfl) h.cur'
theorem Sg.load (h : Sg B A n c g w0 K0 N T0 plan bb br base s0 id ze nm R m cap l zs il ia ic (fuel + 1) listed a W) (hP : planG N plan = true) (hL : Lie B g bb br base w0) (ho : ops[i]? = some o)
    {d t j : Nat} (hv : viewOp ops i = some (some d, .load 62 (.tmp t), none)) (hj : plan[j]? = some (some t, .fld)) (hl : listed.getD j false = true) (hn : listed.getD il false = false) (hi : plan[i]? = some (some d, .old)) (hia : i ≠ ia) (hic : i ≠ ic) :
    wpOp Try.prog ops Q i (fun a' w' => Sg B A n c g w0 K0 N T0 plan bb br base s0 id ze nm R m cap l zs il ia ic fuel (listed.setIfInBounds i true) a' w') a W := by
  obtain ⟨hd, hp, hg⟩ := viewOp_at hv ho
  have hx : a.tmps.getD t undef = .pointer (some ⟨bb, 4, none⟩) := h.slots j t _ hj hl
  have h' : a.tmps[t]?.getD undef = .pointer (some ⟨bb, 4, none⟩) := by simpa using hx
  obtain ⟨x, hbx, hold, _⟩ := h.box
  have hn1 : listed.getD ia false = false := by
    rcases hb : listed.getD ia false with _ | _
    · rfl
    · rw [h.ord.2 hb] at hn; cases hn
  have hn2 : listed.getD ic false = false := by
    rcases hb : listed.getD ic false with _ | _
    · rfl
    · rw [h.ord.1 hb] at hn1; cases hn1
  have he := hold hn2
  subst he
  have hc := hbx.at_ 4 _ rfl
  refine op_value ho hg (x := .slice R m cap) (W' := W) (by simp [execOp, hp, h', hc, go_sem]) ?_
  rw [hd]
  exact h.put hP hL hi hia hic rfl (grown_none W) (.inl rfl) h.cur'
theorem Sg.build (h : Sg B A n c g w0 K0 N T0 plan bb br base s0 id ze nm R m cap l zs il ia ic (fuel + 1) listed a W) (hP : planG N plan = true) (hL : Lie B g bb br base w0) (ho : ops[i]? = some o)
    {d : Nat} {xs : List Int} {p : Op} (hv : viewOp ops i = some (some d, p, none)) (hr : ∀ (o : Oper) (a : Act) (W : World), o.op = p → (execOp a.eval o).run Try.prog W = .ok (.value (.slice (some ⟨W.heap.size, 0, none⟩) xs.length xs.length)) (W.alloc (.cells (xs.map (Value.int .i64)).toArray 3)))
    (hrb : ∀ q, rbk R m cap = some q → q < s0) (hi : plan[i]? = some (some d, .row xs)) (hia : i ≠ ia) (hic : i ≠ ic) :
    wpOp Try.prog ops Q i (fun a' w' => Sg B A n c g w0 K0 N T0 plan bb br base s0 id ze nm R m cap l zs il ia ic fuel (listed.setIfInBounds i true) a' w') a W := by
  obtain ⟨hd, hp, hg⟩ := viewOp_at hv ho
  obtain ⟨k, hk, hc⟩ := h.cur
  obtain ⟨x, hbx, _, _⟩ := h.box
  have hlt := hc.lt
  have hlb := hbx.1
  refine op_value ho hg (hr o a W hp) ?_
  rw [hd]
  exact h.put hP hL hi hia hic ⟨W.heap.size, rfl, by omega, by omega, fun e => by have := hrb _ e.symm; have := h.wide; omega, has_ints W xs⟩ (World.grownBy_alloc _ _ none) (.inl rfl) ⟨k, by omega, hc.alloc _⟩
theorem Sg.among (h : Sg B A n c g w0 K0 N T0 plan bb br base s0 id ze nm R m cap l zs il ia ic (fuel + 1) listed a W) (hP : planG N plan = true) (hL : Lie B g bb br base w0) (ho : ops[i]? = some o)
    {d t q j j' : Nat} {xs : List Int} (h1 : 1 < xs.length) (hxs : xs.length ≤ 100) (hK : K0 ≤ 900000) {ts : Array TypeId} (hv : viewOp ops i = some (some d, .call { callee := .value (.func 84), args := #[.tmp t, .tmp q], argTypes := ts }, none)) (hj : plan[j]? = some (some t, .ptr)) (hl : listed.getD j false = true)
    (hj' : plan[j']? = some (some q, .row xs)) (hl' : listed.getD j' false = true) (hi : plan[i]? = some (some d, .any)) (hia : i ≠ ia) (hic : i ≠ ic) :
    wpOp Try.prog ops Q i (fun a' w' => Sg B A n c g w0 K0 N T0 plan bb br base s0 id ze nm R m cap l zs il ia ic fuel (listed.setIfInBounds i true) a' w') a W := by
  obtain ⟨hd, hp, hg⟩ := viewOp_at hv ho
  have hx : a.tmps.getD t undef = .pointer (some ⟨g, 0, none⟩) := h.slots j t _ hj hl
  obtain ⟨b, hx2, hb, _, _, hh⟩ := h.slots j' q _ hj' hl'
  have h' : a.tmps[t]?.getD undef = .pointer (some ⟨g, 0, none⟩) := by simpa using hx
  have h2' : a.tmps[q]?.getD undef = .slice (some ⟨b, 0, none⟩) xs.length xs.length := by simpa using hx2
  obtain ⟨k, hk, hc⟩ := h.cur
  refine op_call ho hg (f := 84) (args := #[.pointer (some ⟨g, 0, none⟩), .slice (some ⟨b, 0, none⟩) xs.length xs.length]) (by simp [execOp, hp, h', h2', go_sem, enter_any Try.func84 (by kernel_rfl) (by kernel_rfl)]) (among_pre B A n c g k b xs.length xs.length xs W hc (by omega) h1 (Nat.le_refl _) (by omega) hh hb) ?_
  rintro e w' ⟨y, _, rfl, hc', hg'⟩
  refine ⟨_, rfl, ?_⟩
  rw [hd]
  exact h.put hP hL hi hia hic ⟨y, rfl⟩ hg' (.inr rfl) ⟨k + 1, by omega, hc'⟩
theorem Sg.make (h : Sg B A n c g w0 K0 N T0 plan bb br base s0 id ze nm R m cap l zs il ia ic (fuel + 1) listed a W) (hP : planG N plan = true) (hL : Lie B g bb br base w0) (ho : ops[i]? = some o)
    {d t q j j' : Nat} (hv : viewOp ops i = some (some d, .build 140 #[(0, .tmp t), (1, .tmp q)], none)) (hj : plan[j]? = some (some t, .any)) (hl : listed.getD j false = true) (hj' : plan[j']? = some (some q, .any)) (hl' : listed.getD j' false = true) (hi : plan[i]? = some (some d, .rd)) (hia : i ≠ ia) (hic : i ≠ ic) :
    wpOp Try.prog ops Q i (fun a' w' => Sg B A n c g w0 K0 N T0 plan bb br base s0 id ze nm R m cap l zs il ia ic fuel (listed.setIfInBounds i true) a' w') a W := by
  obtain ⟨hd, hp, hg⟩ := viewOp_at hv ho
  obtain ⟨x, hx⟩ := h.slots j t _ hj hl
  obtain ⟨y, hy⟩ := h.slots j' q _ hj' hl'
  have h' : a.tmps[t]?.getD undef = .int .i64 x := by simpa using hx
  have h2' : a.tmps[q]?.getD undef = .int .i64 y := by simpa using hy
  refine op_value ho hg (x := .agg #[.int .i64 x, .int .i64 y]) (W' := W) (by simp [execOp, hp, h', h2', go_sem]) ?_
  rw [hd]
  exact h.put hP hL hi hia hic ⟨x, y, rfl⟩ (grown_none W) (.inl rfl) h.cur'
theorem Sg.one (h : Sg B A n c g w0 K0 N T0 plan bb br base s0 id ze nm R m cap l zs il ia ic (fuel + 1) listed a W) (hP : planG N plan = true) (hL : Lie B g bb br base w0) (ho : ops[i]? = some o)
    {d t j : Nat} (hv : viewOp ops i = some (some d, .buildSlice 62 1 #[(0, .tmp t)], none)) (hj : plan[j]? = some (some t, .rd)) (hl : listed.getD j false = true) (hrb : ∀ q, rbk R m cap = some q → q < s0) (hi : plan[i]? = some (some d, .one)) (hia : i ≠ ia) (hic : i ≠ ic) :
    wpOp Try.prog ops Q i (fun a' w' => Sg B A n c g w0 K0 N T0 plan bb br base s0 id ze nm R m cap l zs il ia ic fuel (listed.setIfInBounds i true) a' w') a W := by
  obtain ⟨hd, hp, hg⟩ := viewOp_at hv ho
  obtain ⟨x, y, hx⟩ := h.slots j t _ hj hl
  have h' : a.tmps[t]?.getD undef = .agg #[.int .i64 x, .int .i64 y] := by simpa using hx
  obtain ⟨k, hk, hc⟩ := h.cur
  obtain ⟨x0, hbx, _, _⟩ := h.box
  have hlt := hc.lt
  have hlb := hbx.1
  refine op_value ho hg (x := .slice (some ⟨W.heap.size, 0, none⟩) 1 1) (W' := W.alloc (.cells #[.int .i64 x, .int .i64 y] 140)) (by simp [execOp, hp, h', go_sem]) ?_
  rw [hd]
  exact h.put hP hL hi hia hic ⟨W.heap.size, x, y, rfl, by omega, by omega, fun e => by have := hrb _ e.symm; have := h.wide; omega, by simpa using Has.new W #[.int .i64 x, .int .i64 y] 140⟩ (World.grownBy_alloc _ _ none) (.inl rfl) ⟨k, by omega, hc.alloc _⟩
theorem FitsG.turn {K : Kg} {x : Value} (h : FitsG g bb base R m cap l W K x) (hK : K ≠ .app) (hg : W.grownBy W' (rbk R m cap)) : FitsG g bb base R m cap l W' K x := by
  cases K with
  | row xs =>
    obtain ⟨b, hx, h1, h2, h3, hh⟩ := h
    exact ⟨b, hx, h1, h2, h3, has_grown hh hg h3⟩
  | one =>
    obtain ⟨b, t, y, hx, h1, h2, h3, hh⟩ := h
    exact ⟨b, t, y, hx, h1, h2, h3, has_grown hh hg h3⟩
  | app => exact absurd rfl hK
  | _ => exact h
theorem listed_put {j : Nat} (h : listed.getD j true = false) : (listed.setIfInBounds j true).getD j false = true ∧ listed.getD j false = false := by
  by_cases hj : j < listed.size
  · simp [hj] at h ⊢; exact h
  · simp [hj] at h
theorem Sg.append (h : Sg B A n c g w0 K0 N T0 plan bb br base s0 id ze nm R m cap l zs il ia ic (fuel + 1) listed a W) (hP : planG N plan = true) (hO : onlyApp plan ia = true) (hL : Lie B g bb br base w0) (hB : B ≤ base) (hw0 : w0.heap.size ≤ base) (hlm : l.length = m) (hm : m ≤ 1000) (ho : ops[ia]? = some o) (hac : ic ≠ ia)
    {d t q j' : Nat} (hv : viewOp ops ia = some (some d, .call { callee := .builtin .append, args := #[.tmp t, .tmp q], argTypes := #[62, 62] }, none)) (hj : plan[il]? = some (some t, .old)) (hl : listed.getD il false = true)
    (hj' : plan[j']? = some (some q, .one)) (hl' : listed.getD j' false = true) (hn0 : listed.getD ia true = false) (hi : plan[ia]? = some (some d, .app)) (hbs : base ≤ s0) (hla : il ≠ ia) :
    wpOp Try.prog ops Q ia (fun a' w' => Sg B A n c g w0 K0 N T0 plan bb br base s0 id ze nm R m cap l zs il ia ic fuel (listed.setIfInBounds ia true) a' w') a W := by
  obtain ⟨hself, hn⟩ := listed_put hn0
  obtain ⟨hd, hp, hg⟩ := viewOp_at hv ho
  obtain ⟨i0, hi0, hz0, hz1, hz2⟩ := info_parts infoLayer
  have hx : a.tmps.getD t undef = .slice R m cap := h.slots il t _ hj hl
  obtain ⟨b, x, y, hx2, hb1, hb2, hb3, hh⟩ := h.slots j' q _ hj' hl'
  have h' : a.tmps[t]?.getD undef = .slice R m cap := by simpa using hx
  have h2' : a.tmps[q]?.getD undef = .slice (some ⟨b, 0, none⟩) 1 1 := by simpa using hx2
  have hown := h.own hn
  have hrb := rbk_base hown
  obtain ⟨k, hk, hc⟩ := h.cur
  have hgb := hL.gb
  have hbb := hL.bb'
  have hbr := hL.brb
  have hsz := h.size
  unfold wpOp
  simp only [ho, Region.wanted, hg, if_true]
  refine .inl ?_
  refine wp_append_own _ _ _ 62 hp base 140 i0 (.agg #[.int .i64 0, .int .i64 0]) 2 16 Try.underlying62 hi0 hz0 hz1 hz2 rfl (by decide) (.slice R m cap) m (cells2 l) (by simpa [Act.eval] using h') hown ⟨b, 0, none⟩ 1 1 [.int .i64 x, .int .i64 y] (by simpa [Act.eval] using h2') rfl ?_ (by simp [Value.oneCell']) (by unfold maxLen; omega) (by omega) (Nat.le_trans hbs h.wide) ?_
  · intro j u hu
    have hadd : (⟨b, 0, none⟩ : Addr).add j = ⟨b, j, none⟩ := by unfold Addr.add; split <;> simp_all
    rw [hadd]
    exact hh.2.1 j u hu
  · intro v' w' hown' hgrow _
    have hgr : W.grownBy w' (rbk R m cap) := hgrow
    obtain ⟨R', cap', rfl⟩ := own_slice hown'
    rw [hd]
    obtain ⟨hdN, hother⟩ := planG_at hP hi
    have happ : AppW base m l w' (.slice R' (m + 1) cap') := ⟨R', cap', x, y, rfl, by rw [cells2_snoc]; exact hown'⟩
    have hne : ∀ q, q < base → some q ≠ rbk R m cap := fun q hq e => by have := (hrb q e.symm).1; omega
    refine ⟨by simpa [Act.put] using hsz, h.defers, fun s hs => ?_, fun j d' K' hj hl => ?_, ⟨k, by omega, hc.kept hgr (hne g hgb) (fun i e => by have := (hrb i e).1; omega)⟩, ?_, ?_, ⟨fun _ => hself, fun _ => by rw [listed_other hla]; exact hl⟩, fun hl => ?_, has_grown h.res hgr (hne br hbr), Nat.le_trans h.wide hgr.size⟩
    · have hne : d ≠ s := planFree_at hs hi
      show (a.tmps.setIfInBounds d _).getD s undef = _
      rw [getD_put _ hne]
      exact h.same s hs
    · show FitsG g bb base R m cap l w' K' ((a.tmps.setIfInBounds d _).getD d' undef)
      by_cases e : j = ia
      · subst e
        rw [hi] at hj
        obtain ⟨rfl, rfl⟩ : d = d' ∧ Kg.app = K' := by injection hj with h1; injection h1 with h2 h3; injection h2 with h2; exact ⟨h2, h3⟩
        have : (a.tmps.setIfInBounds d (.slice R' (m + 1) cap')).getD d undef = .slice R' (m + 1) cap' := by simp [hsz, hdN]
        rw [this]; exact happ
      · have hne := hother j d' K' hj e
        rw [getD_put _ (Ne.symm hne)]
        rw [listed_other e] at hl
        refine (h.slots j d' K' hj hl).turn (fun eK => ?_) hgr
        subst eK
        exact e (onlyApp_at hO hj)
    · exact ⟨hgr.os.trans h.grown.os, hgr.tape.trans h.grown.tape, hgr.output.trans h.grown.output, Nat.le_trans h.grown.size hgr.size, fun i hi hne' => (hgr.block i (Nat.lt_of_lt_of_le hi h.grown.size) (hne i (by omega))).trans (h.grown.block i hi hne')⟩
    · obtain ⟨x0, hb0, h1, h2⟩ := h.box
      refine ⟨x0, has_grown hb0 hgr (hne bb hbb), fun hl => ?_, fun hl => ?_⟩
      · rw [listed_other hac] at hl; exact h1 hl
      · rw [listed_other hac] at hl
        rw [h.ord.1 hl] at hn; cases hn
    · rw [hself] at hl; cases hl
theorem Sg.store (h : Sg B A n c g w0 K0 N T0 plan bb br base s0 id ze nm R m cap l zs il ia ic (fuel + 1) listed a W) (hL : Lie B g bb br base w0) (ho : ops[ic]? = some o) (hac : ia ≠ ic) (hlc : il ≠ ic)
    {t q j : Nat} (hv : viewOp ops ic = some (none, .store 62 (.tmp t) (.tmp q), none)) (hj : plan[j]? = some (some t, .fld)) (hl : listed.getD j false = true)
    (hj' : plan[ia]? = some (some q, .app)) (hl' : listed.getD ia false = true) (hn0 : listed.getD ic true = false) (hi : plan[ic]? = some (none, .any)) :
    wpOp Try.prog ops Q ic (fun a' w' => Sg B A n c g w0 K0 N T0 plan bb br base s0 id ze nm R m cap l zs il ia ic fuel (listed.setIfInBounds ic true) a' w') a W := by
  obtain ⟨hself, hn⟩ := listed_put hn0
  obtain ⟨hd, hp, hg⟩ := viewOp_at hv ho
  have hx : a.tmps.getD t undef = .pointer (some ⟨bb, 4, none⟩) := h.slots j t _ hj hl
  have ha : AppW base m l W (a.tmps.getD q undef) := h.slots ia q _ hj' hl'
  obtain ⟨R', cap', tt, y, hx2, hown⟩ := ha
  have h' : a.tmps[t]?.getD undef = .pointer (some ⟨bb, 4, none⟩) := by simpa using hx
  have h2' : a.tmps[q]?.getD undef = .slice R' (m + 1) cap' := by simpa using hx2
  rw [hx2] at hown
  obtain ⟨x0, hbx, _, _⟩ := h.box
  have hc := hbx.at_ 4 _ rfl
  have hf := hbx.free 4
  obtain ⟨k, hk, hcu⟩ := h.cur
  have hgr : W.grownBy (W.setCell ⟨bb, 4, none⟩ (.slice R' (m + 1) cap')) (some bb) := set_grown W bb 4 _
  have happ : AppW base m l (W.setCell ⟨bb, 4, none⟩ (.slice R' (m + 1) cap')) (.slice R' (m + 1) cap') :=
    AppW.on ⟨R', cap', tt, y, rfl, hown⟩ hgr (fun i e => by have := Option.some.inj e; have := hL.bb'; omega)
  have hbb := hL.bb'
  have hw := hL.w0b
  refine op_skip ho hg (W' := W.setCell ⟨bb, 4, none⟩ (.slice R' (m + 1) cap')) (by simp [execOp, hp, h', h2', hc, hf, go_sem]) ?_
  rw [hd]
  refine ⟨h.size, h.defers, h.same, fun j' d' K' hj hl => ?_, ⟨k, by omega, hcu.kept hgr (fun e => hL.ne1 (Option.some.inj e).symm) (fun i e => by have := Option.some.inj e; have := hL.Bb; omega)⟩, grown_new h.grown hgr hw, ⟨_, hbx.set 4 _, fun hl => ?_, fun _ => happ⟩, ⟨fun _ => by rw [listed_other hac]; exact hl', fun _ => by rw [listed_other hlc]; exact h.ord.2 hl'⟩, fun hl => ?_, has_grown h.res hgr (fun e => hL.ne3 (Option.some.inj e)), Nat.le_trans h.wide hgr.size⟩
  · by_cases e : j' = ic
    · subst e; rw [hi] at hj; cases hj
    · rw [listed_other e] at hl
      exact (h.slots j' d' K' hj hl).on hgr (.inr (.inr rfl)) hL.gb hL.bb'
  · rw [hself] at hl; cases hl
  · rw [listed_other hac] at hl
    rw [hl'] at hl; cases hl
/-- The frame, where all its slots are known. -/
def patch (l : List Value) (ps : List (Nat × Value)) : List Value := ps.foldl (fun l p => l.set p.1 p.2) l
theorem patch_len (ps : List (Nat × Value)) : ∀ l : List Value, (patch l ps).length = l.length := by
  induction ps with
  | nil => intro l; rfl
  | cons p t ih => intro l; show (patch (l.set p.1 p.2) t).length = _; rw [ih]; simp
theorem patch_at (T : Array Value) (s : Nat) (ps : List (Nat × Value)) : ∀ l : List Value, (∀ p ∈ ps, T.getD p.1 undef = p.2) → s < l.length → (s ∉ ps.map (·.1) → l.getD s undef = T.getD s undef) → (patch l ps).getD s undef = T.getD s undef := by
  induction ps with
  | nil => intro l _ _ h; exact h (by simp)
  | cons p t ih =>
    intro l hp hs h
    show (patch (l.set p.1 p.2) t).getD s undef = _
    refine ih _ (fun q hq => hp q (List.mem_cons_of_mem _ hq)) (by simpa using hs) fun hn => ?_
    by_cases e : p.1 = s
    · have := hp p (List.mem_cons_self ..)
      subst e
      rw [this]
      simp [hs]
    · have h2 := h (by simp only [List.map_cons, List.mem_cons, not_or]; exact ⟨fun e2 => e e2.symm, hn⟩)
      rw [← h2]
      simp [List.getD_eq_getElem?_getD, List.getElem?_set_ne e]
theorem frame_is {a : Act} {l : List Value} (ps : List (Nat × Value)) (hs : a.tmps.size = l.length) (hd : a.defers = []) (hp : ∀ p ∈ ps, a.tmps.getD p.1 undef = p.2) (hr : ∀ s, s ∉ ps.map (·.1) → s < l.length → a.tmps.getD s undef = l.getD s undef) : a = ⟨(patch l ps).toArray, []⟩ := by
  cases a with
  | mk T D =>
    obtain rfl : D = [] := hd
    congr 1
    apply Array.ext'
    apply List.ext_getElem?
    intro s
    by_cases h : s < l.length
    · have h1 := patch_at T s ps l hp h (fun hn => (hr s hn h).symm)
      have h2 : s < (patch l ps).length := by rw [patch_len]; exact h
      have h3 : s < T.size := by have : T.size = l.length := hs; omega
      rw [List.getElem?_eq_getElem h2, List.getElem?_eq_getElem (by simpa using h3)]
      congr 1
      rw [List.getD_eq_getElem?_getD, List.getElem?_eq_getElem h2] at h1
      simpa [h3] using h1.symm
    · have h2 : ¬ s < (patch l ps).length := by rw [patch_len]; exact h
      have h3 : ¬ s < T.size := by have : T.size = l.length := hs; omega
      have h4 : ¬ s < T.toList.length := by simpa using h3
      exact (List.getElem?_eq_none (by omega)).trans (List.getElem?_eq_none (show (patch l ps).length ≤ s by omega)).symm
theorem grown_drew {w W : World} {r : Option Nat} (h : w.grownBy W r) : w.grownBy W.drew r := ⟨h.os, h.tape, h.output, h.size, h.block⟩
def slotsOf (plan : List (Option Nat × Kg)) (vs : Nat → Value) : List (Nat × Value) := plan.filterMap fun p => p.1.map fun d => (d, vs d)
theorem slotsOf_mem {plan : List (Option Nat × Kg)} {vs : Nat → Value} {p : Nat × Value} (h : p ∈ slotsOf plan vs) : p.2 = vs p.1 := by
  unfold slotsOf at h
  obtain ⟨q, _, hq⟩ := List.mem_filterMap.1 h
  rcases e : q.1 with _ | d
  · rw [e] at hq; cases hq
  · rw [e] at hq
    simp only [Option.map_some, Option.some.injEq] at hq
    rw [← hq]
theorem slotsOf_free {plan : List (Option Nat × Kg)} {vs : Nat → Value} {s : Nat} (h : s ∉ (slotsOf plan vs).map (·.1)) : planFree plan s = true := by
  unfold planFree
  refine List.all_eq_true.2 fun p hp => ?_
  rcases e : p.1 with _ | d
  · rfl
  · simp only [bne_iff_ne, ne_eq]
    intro e2
    subst e2
    refine h (List.mem_map.2 ⟨(d, vs d), ?_, rfl⟩)
    unfold slotsOf
    exact List.mem_filterMap.2 ⟨p, hp, by rw [e]; rfl⟩
/-- **A region that draws a layer and appends it to the gauge's row, in whatever order.** -/
theorem region_sg {rid : Nat} {a0 : Act} {w1 : World} {k0 : Nat} (hm : Try.prog.follows .mixedOrders = true) (hdb : depB .any ops = true) (hdf : a0.defers = [])
    (hic : ic < ops.size) (hk : k0 + ops.size ≤ K0) (hc : Cur B A n c g k0 w1) (hg : w0.grownBy w1 (some g)) (hb : Has w1 bb [.int .i64 id, .int .i64 ze, .int .i64 nm.1, .int .i64 nm.2, .slice R m cap])
    (ho : w1.ownsRow base 140 2 (.slice R m cap) m (cells2 l)) (hr : Has w1 br zs) (hs0 : s0 = w1.heap.size)
    (hstep : ∀ fuel listed a W, Sg B A n c g w0 K0 a0.tmps.size a0.tmps plan bb br base s0 id ze nm R m cap l zs il ia ic (fuel + 1) listed a W → ∀ i o, ops[i]? = some o → listed.getD i true = false → (∀ e ∈ o.after, Region.binds .any e = true → listed.getD e.on false = true) →
      wpOp Try.prog ops Q i (fun a' w' => Sg B A n c g w0 K0 a0.tmps.size a0.tmps plan bb br base s0 id ze nm R m cap l zs il ia ic fuel (listed.setIfInBounds i true) a' w') a W)
    (hend : ∀ (vs : Nat → Value) (W : World) (R' : Option Addr) (cap' k' : Nat) (t y : Int), k' ≤ K0 → Cur B A n c g k' W → w0.grownBy W (some g) → Has W bb [.int .i64 id, .int .i64 ze, .int .i64 nm.1, .int .i64 nm.2, .slice R' (m + 1) cap'] →
      W.ownsRow base 140 2 (.slice R' (m + 1) cap') (m + 1) (cells2 (l ++ [(t, y)])) → Has W br zs → s0 ≤ W.heap.size → Q .normal ⟨(patch a0.tmps.toList (slotsOf plan vs)).toArray, []⟩ W) :
    (Code.region rid ops true).wp Try.prog Q a0 w1 := by
  refine region_inv hm hdb (Sg B A n c g w0 K0 a0.tmps.size a0.tmps plan bb br base s0 id ze nm R m cap l zs il ia ic) hstep ?_ ?_
  · intro fuel listed a W hS hall
    obtain ⟨k', hk', hc'⟩ := hS.cur
    obtain ⟨x, hx, _, h2⟩ := hS.box
    obtain ⟨R', cap', t, y, rfl, ho'⟩ := h2 (hall ic hic)
    have he := frame_is (a := a) (l := a0.tmps.toList) (slotsOf plan fun d => a.tmps.getD d undef) (by simpa using hS.size) hS.defers (fun p hp => (slotsOf_mem hp).symm) (fun s hs _ => by
      have h1 := hS.same s (slotsOf_free hs)
      rw [h1]
      simp [Array.getD_eq_getD_getElem?, List.getD_eq_getElem?_getD])
    have h3 := hend (fun d => a.tmps.getD d undef) W R' cap' k' t y (by omega) hc' hS.grown hx ho' hS.res hS.wide
    rw [← he] at h3
    exact h3
  · refine ⟨rfl, hdf, fun _ _ => rfl, fun i d K _ hl => (rep_no' hl).elim, ⟨k0, hk, hc.drew_'⟩, grown_drew hg, ⟨_, hb.drew, fun _ => rfl, fun hl => (rep_no' hl).elim⟩, ⟨fun hl => (rep_no' hl).elim, fun hl => (rep_no' hl).elim⟩, fun _ => own_drew ho, hr.drew, by subst hs0; exact Nat.le_refl _⟩
end
end Go.Proofs.Ytdmnkmdlochogab
