/-
  Intervals of soundings: contracts of impl.leastOf, greatestOf, commonTo, AllAgree, spec.l8Low, l8High, l8Find, AllAgree over this translation. Conditions: stated at each theorem.
-/
import Derived.Test.YtdmnkmdlochogaaQv
import Derived.Test.YtdmnkmdlochogaaRed
namespace Go.Proofs.Ytdmnkmdlochogaa
open Go.RowKit

/-- Numbers that do not overflow. -/
def SmS (v : SD) : Prop := (-100000 ≤ v.dep ∧ v.dep ≤ 100000) ∧ (-100000 ≤ v.dbt ∧ v.dbt ≤ 100000)
theorem sm_of {v : SD} (h : sdB v = true) : SmS v := by
  obtain ⟨_, _, _, ⟨a, b⟩, ⟨c, d⟩⟩ := sdB_parts h
  exact ⟨⟨by omega, by omega⟩, ⟨by omega, by omega⟩⟩
theorem sm_at {L : List SD} (h : Good8 L) {k : Nat} {v : SD} (hv : L[k]? = some v) : SmS v := by
  have h1 := h.one k (List.getElem?_eq_some_iff.1 hv).1
  rw [sdAt_at hv] at h1
  exact sm_of h1
theorem SmS.low {v : SD} (h : SmS v) : -200000 ≤ lowS v ∧ lowS v ≤ 200000 := by
  obtain ⟨⟨a, b⟩, ⟨c, d⟩⟩ := h
  unfold lowS
  omega
theorem SmS.high {v : SD} (h : SmS v) : -200000 ≤ highS v ∧ highS v ≤ 200000 := by
  obtain ⟨⟨a, b⟩, ⟨c, d⟩⟩ := h
  unfold highS
  omega
theorem lowS_impl (v : SD) (h : SmS v) (w : World) :
    Calls Try.prog 129 #[.agg #[.int .i64 v.id, .int .i64 v.x, .int .i64 v.y, .int .i64 v.dep, .int .i64 v.dbt]] w fun e w' => e = .returned (.int .i64 (lowS v)) ∧ Below w.heap.size w w' := by
  obtain ⟨⟨a, b⟩, ⟨c, d⟩⟩ := h
  go_enter Try.func129, Try.ntmps129
  go_wp2_with fail
  go_ret
  exact ⟨rfl, (Below.refl _ _).alloc (Nat.le_refl _) _⟩
theorem lowS_spec (v : SD) (h : SmS v) (w : World) :
    Calls Try.prog 134 #[.agg #[.int .i64 v.id, .int .i64 v.x, .int .i64 v.y, .int .i64 v.dep, .int .i64 v.dbt]] w fun e w' => e = .returned (.int .i64 (lowS v)) ∧ Below w.heap.size w w' := by
  obtain ⟨⟨a, b⟩, ⟨c, d⟩⟩ := h
  go_enter Try.func134, Try.ntmps134
  go_wp2_with fail
  go_ret
  exact ⟨rfl, (Below.refl _ _).alloc (Nat.le_refl _) _⟩
/-! ### spec.l8Find -/
theorem Sds.tail {w : World} {B b o n : Nat} {L : List SD} (h : Sds w B (some ⟨b, o, none⟩) n L) : Sds w B (some ⟨b, o + 5, none⟩) (n - 1) (L.drop 1) :=
  ⟨by have := h.1; simp; omega, fun k hk => by
    obtain ⟨b', o', v, hA, hlt, hL, h5⟩ := h.2 (k + 1) (by omega)
    obtain ⟨rfl, rfl⟩ : b = b' ∧ o = o' := by injection hA with h; injection h with h h'; exact ⟨h, h'⟩
    refine ⟨b, o + 5, v, rfl, hlt, by rw [List.getElem?_drop, Nat.add_comm]; exact hL, ?_⟩
    rwa [show o + 5 + k * 5 = o + (k + 1) * 5 by omega]⟩
/-! ### What all have in common -/
def agOk (L : List SD) : Bool := decide (loK L L.length ≤ hiK L L.length)
def agLo (L : List SD) : Int := if agOk L then loK L L.length else 0
def agHi (L : List SD) : Int := if agOk L then hiK L L.length else 0
/-- Numbers in common and whether there are some, handed back. -/
def AgPost (lo hi : Int) (K : Bool) (w : World) (e : Ending) (w' : World) : Prop := e = .returned (.tuple #[.int .i64 lo, .int .i64 hi, .bool K]) ∧ Below w.heap.size w w'
theorem ag_ret {a b lo hi : Int} {x K : Bool} (h1 : lo = a) (h2 : hi = b) (h3 : K = x) : Ending.returned (.tuple #[.int .i64 a, .int .i64 b, .bool x]) = .returned (.tuple #[.int .i64 lo, .int .i64 hi, .bool K]) := by rw [h1, h2, h3]
theorem ag_bd {L : List SD} (h : ∀ v ∈ L, SmS v) : ∀ k, k ≤ L.length → (-200000 ≤ loK L k ∧ loK L k ≤ 200000) ∧ (-200000 ≤ hiK L k ∧ hiK L k ≤ 200000) := by
  have one : ∀ k, k < L.length → SmS (sdAt L k) := fun k hk => by
    have hv := List.getElem?_eq_getElem hk
    rw [sdAt_at hv]
    exact h _ (List.getElem_mem hk)
  intro k
  induction k with
  | zero => intro _; rw [loK, hiK]; omega
  | succ k ih =>
    intro hk
    have a := (one k (by omega)).low
    have b := (one k (by omega)).high
    rcases k with _ | k
    · exact ⟨a, b⟩
    · obtain ⟨p, q⟩ := ih (by omega)
      rw [loK, hiK]
      omega
/-! ### AllAgree -/
def alOk (L : List SD) : Bool := sdsB L && decide (0 < L.length) && agOk L
def alLo (L : List SD) : Int := if alOk L then loK L L.length else 0
def alHi (L : List SD) : Int := if alOk L then hiK L L.length else 0
theorem al_no1 {L : List SD} (h : sdsB L = false) : alLo L = 0 ∧ alHi L = 0 ∧ alOk L = false := by
  have : alOk L = false := by unfold alOk; rw [h]; rfl
  exact ⟨by unfold alLo; rw [this]; rfl, by unfold alHi; rw [this]; rfl, this⟩
theorem al_no2 {L : List SD} (h : L.length = 0) : alLo L = 0 ∧ alHi L = 0 ∧ alOk L = false := by
  have : alOk L = false := by unfold alOk; rw [decide_eq_false (show ¬ 0 < L.length by omega)]; simp
  exact ⟨by unfold alLo; rw [this]; rfl, by unfold alHi; rw [this]; rfl, this⟩
theorem al_yes {L : List SD} (h : sdsB L = true) (h0 : 0 < L.length) : alLo L = agLo L ∧ alHi L = agHi L ∧ alOk L = agOk L := by
  have : alOk L = agOk L := by unfold alOk; rw [h, decide_eq_true h0]; rfl
  exact ⟨by unfold alLo agLo; rw [this], by unfold alHi agHi; rw [this], this⟩
theorem ag_no {lo hi : Int} {K : Bool} {w w' : World} (h : lo = 0 ∧ hi = 0 ∧ K = false) (hb : Below w.heap.size w w') : AgPost lo hi K w (.returned (.tuple #[.int .i64 0, .int .i64 0, .bool false])) w' := ⟨by rw [h.1, h.2.1, h.2.2], hb⟩
theorem ag_same {lo hi a b : Int} {K x : Bool} {w w' : World} (h : lo = a ∧ hi = b ∧ K = x) (hb : Below w.heap.size w w') : AgPost lo hi K w (.returned (.tuple #[.int .i64 a, .int .i64 b, .bool x])) w' := ⟨by rw [h.1, h.2.1, h.2.2], hb⟩
theorem sm_all {L : List SD} (h : sdsB L = true) : ∀ v ∈ L, SmS v := fun v hv => by
  obtain ⟨k, hk⟩ := List.mem_iff_getElem?.1 hv
  exact sm_at (good8_of h) hk
end Go.Proofs.Ytdmnkmdlochogaa
