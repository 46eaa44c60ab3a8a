/-
  How many lines cover each cell: contract of impl.countsOf over this translation. Conditions: stated at each theorem.
-/
import Derived.Test.YtdmnkmdlochogabCa
import Derived.Test.YtdmnkmdlochogabTc
import Derived.Laws.IdiomStrings
namespace Go.Proofs.Ytdmnkmdlochogab
open Go.RowKit
set_option linter.unusedVariables false

theorem grown_trans9 {W W1 W2 : World} {row : Option Nat} (h : W.grownBy W1 row) (k : W1.grownBy W2 row) : W.grownBy W2 row :=
  ⟨k.os.trans h.os, k.tape.trans h.tape, k.output.trans h.output, Nat.le_trans h.size k.size, fun i hi hn => (k.block i (Nat.lt_of_lt_of_le hi h.size) hn).trans (h.block i hi hn)⟩
theorem grown_below9 {W W1 : World} (row : Option Nat) (h : Below W.heap.size W W1) : W.grownBy W1 row := ⟨h.os, h.tape, h.output, h.size, fun i hi _ => h.block i hi⟩
/-- Counts of row r: the columns before c are done, column c has seen i lines. -/
def cntF (L : List LN) (r c i x : Nat) : Int := if x < c then cvN L r x else if x = c then cvK L r c i else 0
def cntV (L : List LN) (r c i : Nat) : List Value := (List.range 20).map fun x => Value.int .i64 (cntF L r c i x)
theorem cntV_at (L : List LN) (r c i x : Nat) (hx : x < 20) : (cntV L r c i)[x]? = some (.int .i64 (cntF L r c i x)) := by simp [cntV, hx]
theorem cntV_len (L : List LN) (r c i : Nat) : (cntV L r c i).length = 20 := by simp [cntV]
theorem cntV_zero (L : List LN) (r : Nat) : cntV L r 0 0 = List.replicate 20 (.int .i64 0) := by
  apply List.ext_getElem?
  intro x
  by_cases hx : x < 20
  · rw [cntV_at _ _ _ _ _ hx, List.getElem?_replicate, if_pos hx]
    unfold cntF
    rw [if_neg (by omega)]
    by_cases h0 : x = 0
    · rw [if_pos h0]; rfl
    · rw [if_neg h0]
  · rw [List.getElem?_eq_none (by rw [cntV_len]; omega), List.getElem?_eq_none (by simp; omega)]
theorem cntV_next (L : List LN) (r c : Nat) : cntV L r c L.length = cntV L r (c + 1) 0 := by
  apply List.ext_getElem?
  intro x
  by_cases hx : x < 20
  · rw [cntV_at _ _ _ _ _ hx, cntV_at _ _ _ _ _ hx]
    unfold cntF
    by_cases h1 : x < c
    · rw [if_pos h1, if_pos (by omega)]
    · by_cases h2 : x = c
      · subst h2; rw [if_neg h1, if_pos rfl, if_pos (by omega)]; rfl
      · rw [if_neg h1, if_neg h2, if_neg (by omega)]
        by_cases h3 : x = c + 1
        · rw [if_pos h3]; rfl
        · rw [if_neg h3]
  · rw [List.getElem?_eq_none (by rw [cntV_len]; omega), List.getElem?_eq_none (by rw [cntV_len]; omega)]
theorem cntV_same {L : List LN} {r c i : Nat} (h : cvK L r c (i + 1) = cvK L r c i) : cntV L r c (i + 1) = cntV L r c i := by
  unfold cntV cntF; rw [h]
theorem cntV_set {L : List LN} {r c i : Nat} (hc : c < 20) {m : Nat} (h : cvK L r c (i + 1) = m) : (cntV L r c i).set c (.int .i64 m) = cntV L r c (i + 1) := by
  apply List.ext_getElem?
  intro x
  by_cases hx : x < 20
  · rw [List.getElem?_set, cntV_at _ _ _ _ _ hx, cntV_at _ _ _ _ _ hx, cntV_len]
    by_cases e : c = x
    · subst e
      rw [if_pos rfl, if_pos hx]
      unfold cntF
      rw [if_neg (by omega), if_pos rfl, h]
    · have e' : ¬ x = c := fun h => e h.symm
      rw [if_neg e]
      unfold cntF
      simp only [if_neg e']
  · rw [List.getElem?_eq_none (by rw [List.length_set, cntV_len]; omega), List.getElem?_eq_none (by rw [cntV_len]; omega)]
def rowsV (gs : List Nat) : List Value := gs.map fun g => Value.slice (some ⟨g, 0, none⟩) 20 20
theorem rowsV_snoc (gs : List Nat) (g : Nat) : rowsV gs ++ [Value.slice (some ⟨g, 0, none⟩) 20 20] = rowsV (gs ++ [g]) := by simp [rowsV]
theorem rowsV_at {gs : List Nat} {j g : Nat} (h : gs[j]? = some g) : (rowsV gs)[j]? = some (.slice (some ⟨g, 0, none⟩) 20 20) := by simp [rowsV, h]
def GridAt (L : List LN) (gs : List Nat) (w : World) : Prop := ∀ (j g : Nat), gs[j]? = some g → Has w g (cntV L j 20 0)
theorem GridAt.on {L : List LN} {gs : List Nat} {w w' : World} {row : Option Nat} (h : GridAt L gs w) (hg : w.grownBy w' row) (hr : ∀ (j g : Nat), gs[j]? = some g → some g ≠ row) : GridAt L gs w' := fun j g hj => has_grown (h j g hj) hg (hr j g hj)
theorem GridAt.next {L : List LN} {gs : List Nat} {w w' : World} (h : GridAt L gs w) (hb : Below w.heap.size w w') : GridAt L gs w' := fun j g hj => (h j g hj).next hb
theorem GridAt.snoc {L : List LN} {gs : List Nat} {w : World} {k g : Nat} (h : GridAt L gs w) (hk : gs.length = k) (hg : Has w g (cntV L k 20 0)) : GridAt L (gs ++ [g]) w := fun j g' hj => by
  rcases Nat.lt_or_ge j gs.length with h1 | h1
  · rw [List.getElem?_append_left h1] at hj
    exact h j g' hj
  · rw [List.getElem?_append_right h1] at hj
    obtain ⟨h2, rfl⟩ : j - gs.length = 0 ∧ g = g' := by
      rcases hq : j - gs.length with _ | q
      · rw [hq] at hj; exact ⟨rfl, Option.some.inj hj⟩
      · rw [hq] at hj; cases hj
    obtain rfl : j = k := by omega
    exact hg
theorem one_new9 (w : World) (x : Value) (T : TypeId) : ∀ (j : Nat) (u : Value), [x][j]? = some u → (w.alloc (.cells #[x] T)).cell? ((⟨w.heap.size, 0, none⟩ : Addr).add j) = some u := by
  intro j u hu
  rcases j with _ | j
  · simp [Addr.add, World.cell?_alloc_new] at hu ⊢; exact hu
  · simp at hu
theorem zero_row {W W1 : World} {B T : Nat} (h : W1.ownsRow B T 1 (.slice (some ⟨W.heap.size, 0, none⟩) 20 20) 20 (madeCells #[Value.int .i64 0] (20 * 1)).toList) (hg : W.grownBy W1 none) : Below W.heap.size W W1 ∧ Has W1 W.heap.size (List.replicate 20 (Value.int .i64 0)) := by
  refine ⟨⟨hg.os, hg.tape, hg.output, hg.size, fun k hk => hg.block k hk (by simp)⟩, (h.lt _ rfl).2, fun j u hu => ?_, fun j => ?_⟩
  · have e : (madeCells #[Value.int .i64 0] (20 * 1)).toList = List.replicate 20 (Value.int .i64 0) := toList_madeCells_one _ _
    rw [e] at h
    have hj : j < 20 := by have := (List.getElem?_eq_some_iff.1 hu).1; simpa using this
    have h1 := h.cellAt j (by omega)
    exact h1.trans hu
  · exact h.frozenAt j
/-- What is owned has a block apart from one that holds numbers. -/
theorem own_apart {W : World} {B n T : Nat} {v : Value} {gs : List Nat} {G : Nat} {xs : List Int} {gv cap : Nat} (h : W.ownsRow B T 1 v n (rowsV gs)) (hv : v = .slice (some ⟨gv, 0, none⟩) n cap) {j g : Nat} (hj : gs[j]? = some g) (hG : Has W G (xs.map (Value.int .i64))) (hx : j < xs.length) : gv ≠ G := by
  subst hv
  intro e
  subst e
  have h1 := h.cellAt j (by have := (List.getElem?_eq_some_iff.1 (rowsV_at hj)).1; have := h.1; omega)
  rw [rowsV_at hj] at h1
  have h2 := hG.at_ j (.int .i64 xs[j]) (by simp [hx])
  rw [h2] at h1
  cases h1
theorem grid_apart {W : World} {B n T : Nat} {v : Value} {gs : List Nat} {L : List LN} (h : W.ownsRow B T 1 v n (rowsV gs)) (hA : GridAt L gs W) {j g : Nat} (hj : gs[j]? = some g) (e : v.ownBlock = some g) : False := by
  have h2 := h.lt
  rcases h.2 with ⟨rfl, _⟩ | ⟨gv, cap, cur, rfl, _⟩
  · cases e
  · obtain rfl : gv = g := Option.some.inj e
    have hjn : j < n := by have := (List.getElem?_eq_some_iff.1 (rowsV_at hj)).1; have := h.1; omega
    obtain ⟨g0, h0⟩ : ∃ g0, gs[0]? = some g0 := ⟨gs[0]'(by have := (List.getElem?_eq_some_iff.1 hj).1; omega), List.getElem?_eq_getElem _⟩
    have h3 := h.cellAt 0 (by omega)
    rw [rowsV_at h0] at h3
    have h4 := (hA j gv hj).at_ 0 _ (cntV_at L j 20 0 0 (by omega))
    rw [h4] at h3
    cases h3
/-- The counts of all cells, handed back. -/
def CountsPost (L : List LN) (w : World) (e : Ending) (w' : World) : Prop :=
  ∃ (gv cap : Nat) (gs : List Nat), e = .returned (.slice (some ⟨gv, 0, none⟩) 20 cap) ∧ gs.length = 20 ∧ (∀ (j g : Nat), gs[j]? = some g → w'.cell? ⟨gv, j, none⟩ = some (.slice (some ⟨g, 0, none⟩) 20 20)) ∧ GridAt L gs w' ∧ Below w.heap.size w w'
end Go.Proofs.Ytdmnkmdlochogab
