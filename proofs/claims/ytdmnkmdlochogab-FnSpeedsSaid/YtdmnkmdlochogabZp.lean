/-
  Layers, the speed at a depth, travel, the depth for a time, the mean, thinner casts, casts within a bound, rows of casts in plain words. Conditions: stated at each theorem.
-/
import Derived.Test.YtdmnkmdlochogabBase
namespace Go.Proofs.Ytdmnkmdlochogab
set_option linter.unusedVariables false

/-! ### Layers -/
def depAt (l : List (Int × Int)) (k : Nat) : Int := (l.getD k (0, 0)).1
def spdAt (l : List (Int × Int)) (k : Nat) : Int := (l.getD k (0, 0)).2
theorem depAt_at {l : List (Int × Int)} {k : Nat} {x y : Int} (h : l[k]? = some (x, y)) : depAt l k = x := by unfold depAt; rw [List.getD_eq_getElem?_getD, h]; rfl
theorem spdAt_at {l : List (Int × Int)} {k : Nat} {x y : Int} (h : l[k]? = some (x, y)) : spdAt l k = y := by unfold spdAt; rw [List.getD_eq_getElem?_getD, h]; rfl
theorem lay_at {l : List (Int × Int)} {k : Nat} (h : k < l.length) : l[k]? = some (depAt l k, spdAt l k) := by
  rw [List.getElem?_eq_getElem h]
  unfold depAt spdAt
  rw [List.getD_eq_getElem?_getD, List.getElem?_eq_getElem h]; rfl
def qlayB (l : List (Int × Int)) (k : Nat) : Bool := inB (depAt l k) 0 20000 && inB (spdAt l k) 14000 16000 && (if k = 0 then decide (depAt l k = 0) else decide (depAt l (k - 1) < depAt l k))
def qgoodK (l : List (Int × Int)) (k : Nat) : Bool := (List.range k).all (qlayB l)
def laysB (l : List (Int × Int)) : Bool := inB l.length 1 8 && qgoodK l l.length
theorem qgoodK_succ (l : List (Int × Int)) (k : Nat) : qgoodK l (k + 1) = (qgoodK l k && qlayB l k) := by
  unfold qgoodK
  rw [List.range_succ, List.all_append]
  simp
theorem qgoodK_bad {l : List (Int × Int)} {k n : Nat} (h : k < n) (hb : qlayB l k = false) : qgoodK l n = false := by
  unfold qgoodK
  rw [List.all_eq_false]
  exact ⟨k, by simpa using h, by simpa using hb⟩
theorem qlay_zero {l : List (Int × Int)} {x y : Int} (h : l[0]? = some (x, y)) : qlayB l 0 = (inB x 0 20000 && inB y 14000 16000 && decide (x = 0)) := by
  unfold qlayB; rw [depAt_at h, spdAt_at h, if_pos rfl]
theorem qlay_succ {l : List (Int × Int)} {k : Nat} {x y x' y' : Int} (h : l[k + 1]? = some (x, y)) (h' : l[k]? = some (x', y')) : qlayB l (k + 1) = (inB x 0 20000 && inB y 14000 16000 && decide (x' < x)) := by
  unfold qlayB; rw [depAt_at h, spdAt_at h, if_neg (by omega), Nat.add_sub_cancel, depAt_at h']
theorem laysB_len {l : List (Int × Int)} (h : inB l.length 1 8 = false) : laysB l = false := by unfold laysB; rw [h]; rfl
theorem laysB_bad {l : List (Int × Int)} (h : qgoodK l l.length = false) : laysB l = false := by unfold laysB; rw [h, Bool.and_false]
theorem laysB_good {l : List (Int × Int)} (h : qgoodK l l.length = true) : laysB l = inB l.length 1 8 := by unfold laysB; rw [h, Bool.and_true]
/-- The layers of a valid cast. -/
structure Lays (l : List (Int × Int)) : Prop where
  one : 1 ≤ l.length
  max : l.length ≤ 8
  zero : depAt l 0 = 0
  dep : ∀ k, k < l.length → 0 ≤ depAt l k ∧ depAt l k ≤ 20000
  spd : ∀ k, k < l.length → 14000 ≤ spdAt l k ∧ spdAt l k ≤ 16000
  asc : ∀ k, k + 1 < l.length → depAt l k < depAt l (k + 1)
theorem qgood_at {l : List (Int × Int)} {n : Nat} (h : qgoodK l n = true) {k : Nat} (hk : k < n) : qlayB l k = true := by
  unfold qgoodK at h
  exact List.all_eq_true.1 h k (by simpa using hk)
theorem lays_of {l : List (Int × Int)} (h : laysB l = true) : Lays l := by
  unfold laysB at h
  rw [Bool.and_eq_true] at h
  have h1 := inB_yes h.1
  have key : ∀ k, k < l.length → ((0 ≤ depAt l k ∧ depAt l k ≤ 20000) ∧ (14000 ≤ spdAt l k ∧ spdAt l k ≤ 16000)) ∧ (if k = 0 then decide (depAt l k = 0) else decide (depAt l (k - 1) < depAt l k)) = true := fun k hk => by
    have h2 := qgood_at h.2 hk
    unfold qlayB at h2
    rw [Bool.and_eq_true, Bool.and_eq_true] at h2
    exact ⟨⟨inB_yes h2.1.1, inB_yes h2.1.2⟩, h2.2⟩
  refine ⟨by omega, by omega, by simpa using (key 0 (by omega)).2, fun k hk => (key k hk).1.1, fun k hk => (key k hk).1.2, fun k hk => ?_⟩
  have := (key (k + 1) hk).2
  rw [if_neg (by omega), Nat.add_sub_cancel] at this
  exact of_decide_eq_true this
theorem lays_mk {l : List (Int × Int)} (h : Lays l) : laysB l = true := by
  unfold laysB qgoodK
  rw [inB_mk (by have := h.one; omega) (by have := h.max; omega), Bool.true_and, List.all_eq_true]
  intro k hk
  have hk' : k < l.length := by simpa using hk
  have h1 := h.dep k hk'
  have h2 := h.spd k hk'
  unfold qlayB
  rw [inB_mk h1.1 h1.2, inB_mk h2.1 h2.2]
  by_cases e : k = 0
  · subst e; simp [h.zero]
  · obtain ⟨j, rfl⟩ : ∃ j, k = j + 1 := ⟨k - 1, by omega⟩
    simp [h.asc j hk']
theorem Lays.le {l : List (Int × Int)} (h : Lays l) {p q : Nat} (hpq : p ≤ q) (hq : q < l.length) : depAt l p ≤ depAt l q := by
  induction q with
  | zero => obtain rfl : p = 0 := by omega
            exact Int.le_refl _
  | succ q ih =>
    rcases Nat.lt_or_ge p (q + 1) with hlt | hge
    · have := ih (by omega) (by omega)
      have := h.asc q hq
      omega
    · obtain rfl : p = q + 1 := by omega
      exact Int.le_refl _
theorem Lays.lt {l : List (Int × Int)} (h : Lays l) {p q : Nat} (hpq : p < q) (hq : q < l.length) : depAt l p < depAt l q := by
  have h1 := h.asc p (by omega)
  have h2 := h.le (p := p + 1) (q := q) (by omega) hq
  omega

/-! ### The speed at a depth -/
def spdK (l : List (Int × Int)) (d : Int) : Nat → Int
  | 0 => 0
  | k + 1 => if depAt l k ≤ d then spdAt l k else spdK l d k
def spOf (l : List (Int × Int)) (d : Int) : Int := spdK l d l.length
theorem spdK_past {l : List (Int × Int)} (h : Lays l) {d : Int} {k : Nat} (hk : k < l.length) (hd : depAt l k ≤ d) {n : Nat} (h1 : k + 1 ≤ n) (h2 : n ≤ l.length) (h3 : ∀ j, k < j → j < n → d < depAt l j) : spdK l d n = spdAt l k := by
  induction n with
  | zero => omega
  | succ n ih =>
    rw [spdK]
    rcases Nat.lt_or_ge k n with hlt | hge
    · rw [if_neg (by have := h3 n hlt (by omega); omega)]
      exact ih (by omega) (by omega) (fun j a b => h3 j a (by omega))
    · obtain rfl : k = n := by omega
      rw [if_pos hd]
theorem spOf_hit {l : List (Int × Int)} (h : Lays l) {d : Int} {k : Nat} (hk : k < l.length) (hd : depAt l k ≤ d) (hn : k + 1 < l.length → d < depAt l (k + 1)) : spOf l d = spdAt l k :=
  spdK_past h hk hd (by omega) (Nat.le_refl _) (fun j a b => by
    have h1 := hn (by omega)
    have h2 := h.le (p := k + 1) (q := j) (by omega) b
    omega)
/-- The layer that a depth lies in. -/
theorem lay_ex {l : List (Int × Int)} (h : Lays l) {d : Int} (hd : 0 ≤ d) : ∃ k, k < l.length ∧ depAt l k ≤ d ∧ (k + 1 < l.length → d < depAt l (k + 1)) := by
  have h1 := h.one
  have key : ∀ n, 1 ≤ n → n ≤ l.length → ∃ k, k < n ∧ depAt l k ≤ d ∧ (k + 1 < n → d < depAt l (k + 1)) := by
    intro n
    induction n with
    | zero => intro h; omega
    | succ n ih =>
      intro _ hn
      rcases Nat.eq_zero_or_pos n with rfl | hp
      · exact ⟨0, by omega, by rw [h.zero]; exact hd, fun h => by omega⟩
      · obtain ⟨k, hk, hd', hn'⟩ := ih hp (by omega)
        by_cases e : depAt l n ≤ d
        · exact ⟨n, by omega, e, fun h => by omega⟩
        · refine ⟨k, by omega, hd', fun hlt => ?_⟩
          rcases Nat.lt_or_ge (k + 1) n with a | a
          · exact hn' a
          · obtain rfl : k + 1 = n := by omega
            omega
  exact key l.length h1 (Nat.le_refl _)
theorem spOf_bd {l : List (Int × Int)} (h : Lays l) {d : Int} (hd : 0 ≤ d) : 14000 ≤ spOf l d ∧ spOf l d ≤ 16000 := by
  obtain ⟨k, hk, h1, h2⟩ := lay_ex h hd
  rw [spOf_hit h hk h1 h2]
  exact h.spd k hk

/-! ### Layers above a depth -/
def endAt (l : List (Int × Int)) (i : Nat) (d : Int) : Int := if i + 1 < l.length then min d (depAt l (i + 1)) else d
def thc (l : List (Int × Int)) (i : Nat) (d : Int) : Int := max 0 (endAt l i d - depAt l i)
theorem endAt_mono (l : List (Int × Int)) (i : Nat) {d e : Int} (h : d ≤ e) : endAt l i d ≤ endAt l i e := by unfold endAt; split <;> omega
theorem thc_mono (l : List (Int × Int)) (i : Nat) {d e : Int} (h : d ≤ e) : thc l i d ≤ thc l i e := by have := endAt_mono l i h; unfold thc; omega
theorem thc_bd {l : List (Int × Int)} (h : Lays l) {i : Nat} (hi : i < l.length) {d : Int} (hd : 0 ≤ d) : 0 ≤ thc l i d ∧ thc l i d ≤ d := by
  have h1 := h.dep i hi
  have h2 : endAt l i d ≤ d := by unfold endAt; split <;> omega
  unfold thc; omega
def thK (l : List (Int × Int)) (d : Int) : Nat → Int
  | 0 => 0
  | k + 1 => thK l d k + thc l k d
theorem thK_eq {l : List (Int × Int)} (h : Lays l) {d : Int} (hd : 0 ≤ d) {k : Nat} (hk : k < l.length) : thK l d k = min d (depAt l k) := by
  induction k with
  | zero => rw [h.zero, thK]; omega
  | succ k ih =>
    have h1 := ih (by omega)
    have h2 := h.asc k hk
    have h3 := h.dep k (by omega)
    rw [thK, h1, thc, endAt, if_pos hk]
    omega
theorem thK_all {l : List (Int × Int)} (h : Lays l) {d : Int} (hd : 0 ≤ d) : thK l d l.length = d := by
  obtain ⟨n, hn⟩ : ∃ n, l.length = n + 1 := ⟨l.length - 1, by have := h.one; omega⟩
  have h1 := thK_eq h hd (k := n) (by omega)
  have h3 := h.dep n (by omega)
  rw [hn, thK, h1, thc, endAt, if_neg (by omega)]
  omega

/-! ### The travel -/
def tvK (l : List (Int × Int)) (d : Int) : Nat → Int
  | 0 => 0
  | k + 1 => tvK l d k + thc l k d * 100000 / spdAt l k
def trv (l : List (Int × Int)) (d : Int) : Int := tvK l d l.length
theorem tv_one {l : List (Int × Int)} (h : Lays l) {i : Nat} (hi : i < l.length) {d : Int} (hd : 0 ≤ d) (hd' : d ≤ 20001) : 0 ≤ thc l i d * 100000 / spdAt l i ∧ thc l i d * 100000 / spdAt l i ≤ 142865 := by
  have h1 := thc_bd h hi hd
  have h2 := h.spd i hi
  refine ⟨Int.ediv_nonneg (by omega) (by omega), ?_⟩
  have : thc l i d * 100000 / spdAt l i < 142866 := Int.ediv_lt_of_lt_mul (by omega) (by omega)
  omega
theorem tvK_bd {l : List (Int × Int)} (h : Lays l) {d : Int} (hd : 0 ≤ d) (hd' : d ≤ 20001) {k : Nat} (hk : k ≤ l.length) : 0 ≤ tvK l d k ∧ tvK l d k ≤ 142865 * k := by
  induction k with
  | zero => simp [tvK]
  | succ k ih =>
    have := ih (by omega)
    have := tv_one h (i := k) (by omega) hd hd'
    rw [tvK]; omega
theorem tvK_mono {l : List (Int × Int)} (h : Lays l) {d e : Int} (hde : d ≤ e) {k : Nat} (hk : k ≤ l.length) : tvK l d k ≤ tvK l e k := by
  induction k with
  | zero => exact Int.le_refl _
  | succ k ih =>
    have h1 := ih (by omega)
    have h2 := h.spd k (by omega)
    have h3 : thc l k d * 100000 / spdAt l k ≤ thc l k e * 100000 / spdAt l k := Int.ediv_le_ediv (by omega) (by have := thc_mono l k hde; omega)
    rw [tvK, tvK]; omega
theorem trv_mono {l : List (Int × Int)} (h : Lays l) {d e : Int} (hde : d ≤ e) : trv l d ≤ trv l e := tvK_mono h hde (Nat.le_refl _)
theorem trv_bd {l : List (Int × Int)} (h : Lays l) {d : Int} (hd : 0 ≤ d) (hd' : d ≤ 20001) : 0 ≤ trv l d ∧ trv l d ≤ 1142920 := by
  have := tvK_bd h hd hd' (Nat.le_refl _)
  have := h.max
  unfold trv; omega
theorem trv_zero {l : List (Int × Int)} (h : Lays l) : trv l 0 = 0 := by
  have key : ∀ k, k ≤ l.length → tvK l 0 k = 0 := by
    intro k
    induction k with
    | zero => intro _; rfl
    | succ k ih =>
      intro hk
      have h1 := thc_bd h (i := k) (by omega) (d := 0) (Int.le_refl _)
      rw [tvK, ih (by omega), show thc l k 0 = 0 by omega]
      simp
  exact key _ (Nat.le_refl _)

/-! ### The depth for a time -/
structure IsDep (l : List (Int × Int)) (m d : Int) : Prop where
  low : 0 ≤ d
  high : d ≤ 20000
  in_ : trv l d ≤ m
  out : ∀ e, d < e → e ≤ 20000 → m < trv l e
theorem IsDep.one {l : List (Int × Int)} {m d e : Int} (h : IsDep l m d) (k : IsDep l m e) : d = e := by
  rcases Int.lt_trichotomy d e with a | a | a
  · have := h.out e a k.high; have := k.in_; omega
  · exact a
  · have := k.out d a h.high; have := h.in_; omega
open Classical in
noncomputable def depF (l : List (Int × Int)) (m : Int) : Int := if h : ∃ d, IsDep l m d then h.choose else 0
theorem depF_is {l : List (Int × Int)} {m d : Int} (h : IsDep l m d) : depF l m = d := by
  unfold depF
  rw [dif_pos ⟨d, h⟩]
  exact (Exists.choose_spec (⟨d, h⟩ : ∃ d, IsDep l m d)).one h
/-- A search by halves: all up to low are in time, all above high are not. -/
structure Halves (l : List (Int × Int)) (m low high : Int) : Prop where
  le : low ≤ high
  l0 : 0 ≤ low
  h2 : high ≤ 20000
  in_ : trv l low ≤ m
  out : ∀ e, high < e → e ≤ 20000 → m < trv l e
theorem halves_start {l : List (Int × Int)} (h : Lays l) {m : Int} (hm : 0 ≤ m) : Halves l m 0 20000 :=
  ⟨by omega, by omega, by omega, by rw [trv_zero h]; exact hm, fun e a b => by omega⟩
theorem Halves.up {l : List (Int × Int)} {m low high mid : Int} (h : Halves l m low high) (h1 : low ≤ mid) (h2 : mid ≤ high) (ht : trv l mid ≤ m) : Halves l m mid high :=
  ⟨h2, by have := h.l0; omega, h.h2, ht, h.out⟩
theorem Halves.down {l : List (Int × Int)} {m low high mid : Int} (hl : Lays l) (h : Halves l m low high) (h1 : low < mid) (h2 : mid ≤ high) (ht : ¬ trv l mid ≤ m) : Halves l m low (mid - 1) :=
  ⟨by omega, h.l0, by have := h.h2; omega, h.in_, fun e a b => by have := trv_mono hl (d := mid) (e := e) (by omega); omega⟩
theorem Halves.end_ {l : List (Int × Int)} {m low high : Int} (h : Halves l m low high) (e : ¬ low < high) : IsDep l m low :=
  ⟨h.l0, by have := h.le; have := h.h2; omega, h.in_, fun x a b => h.out x (by omega) b⟩

/-! ### The mean -/
def mnK (l : List (Int × Int)) (d : Int) : Nat → Int
  | 0 => 0
  | k + 1 => mnK l d k + thc l k d * spdAt l k
def mnS (l : List (Int × Int)) (d : Int) : Int := mnK l d l.length
theorem mnK_bd {l : List (Int × Int)} (h : Lays l) {d : Int} (hd : 0 ≤ d) {k : Nat} (hk : k ≤ l.length) : 14000 * thK l d k ≤ mnK l d k ∧ mnK l d k ≤ 16000 * thK l d k ∧ 0 ≤ thK l d k := by
  induction k with
  | zero => simp [mnK, thK]
  | succ k ih =>
    have h1 := ih (by omega)
    have h2 := h.spd k (by omega)
    have h3 := thc_bd h (i := k) (by omega) hd
    have h4 : thc l k d * 14000 ≤ thc l k d * spdAt l k := Int.mul_le_mul_of_nonneg_left h2.1 h3.1
    have h5 : thc l k d * spdAt l k ≤ thc l k d * 16000 := Int.mul_le_mul_of_nonneg_left h2.2 h3.1
    rw [mnK, thK]; omega
theorem thK_le {l : List (Int × Int)} (h : Lays l) {d : Int} (hd : 0 ≤ d) {k : Nat} (hk : k ≤ l.length) : thK l d k ≤ d := by
  rcases Nat.lt_or_ge k l.length with a | a
  · rw [thK_eq h hd a]; omega
  · obtain rfl : k = l.length := by omega
    rw [thK_all h hd]; exact Int.le_refl _
theorem mnS_bd {l : List (Int × Int)} (h : Lays l) {d : Int} (hd : 0 ≤ d) : 14000 * d ≤ mnS l d ∧ mnS l d ≤ 16000 * d := by
  have := mnK_bd h hd (Nat.le_refl _)
  rw [thK_all h hd] at this
  unfold mnS; omega

/-! ### A thinner cast -/
def kept (l : List (Int × Int)) (k : Nat) : Bool := k == 0 || spdAt l (k - 1) != spdAt l k
def thinK (l : List (Int × Int)) : Nat → List (Int × Int)
  | 0 => []
  | k + 1 => if kept l k then thinK l k ++ [(depAt l k, spdAt l k)] else thinK l k
def thin (l : List (Int × Int)) : List (Int × Int) := thinK l l.length
theorem kept_zero (l : List (Int × Int)) : kept l 0 = true := rfl
theorem kept_succ (l : List (Int × Int)) (k : Nat) : kept l (k + 1) = (spdAt l k != spdAt l (k + 1)) := by simp [kept]
theorem thinK_len (l : List (Int × Int)) (k : Nat) : (thinK l k).length ≤ k := by
  induction k with
  | zero => exact Nat.le_refl _
  | succ k ih =>
    rw [thinK]
    split
    · simp; omega
    · omega
theorem depAt_snoc (l : List (Int × Int)) (x y : Int) : depAt (l ++ [(x, y)]) l.length = x := depAt_at (x := x) (y := y) (by simp)
theorem spdAt_snoc (l : List (Int × Int)) (x y : Int) : spdAt (l ++ [(x, y)]) l.length = y := spdAt_at (x := x) (y := y) (by simp)
theorem depAt_app (l r : List (Int × Int)) {k : Nat} (h : k < l.length) : depAt (l ++ r) k = depAt l k := by unfold depAt; simp [List.getElem?_append_left h]
theorem spdAt_app (l r : List (Int × Int)) {k : Nat} (h : k < l.length) : spdAt (l ++ r) k = spdAt l k := by unfold spdAt; simp [List.getElem?_append_left h]
theorem spdK_app (l r : List (Int × Int)) (d : Int) {k : Nat} (h : k ≤ l.length) : spdK (l ++ r) d k = spdK l d k := by
  induction k with
  | zero => rfl
  | succ k ih => rw [spdK, spdK, depAt_app l r (by omega), spdAt_app l r (by omega), ih (by omega)]
theorem spOf_snoc (l : List (Int × Int)) (x y d : Int) : spOf (l ++ [(x, y)]) d = if x ≤ d then y else spOf l d := by
  unfold spOf
  rw [List.length_append, show l.length + [(x, y)].length = l.length + 1 from rfl, spdK, depAt_snoc, spdAt_snoc, spdK_app _ _ _ (Nat.le_refl _)]
/-- What the first k layers, thinned, say. -/
structure ThinIn (l : List (Int × Int)) (k : Nat) (t : List (Int × Int)) : Prop where
  some : ∃ j, t.length = j + 1 ∧ spdAt t j = spdAt l (k - 1) ∧ depAt t j ≤ depAt l (k - 1)
  len : t.length ≤ k
  zero : depAt t 0 = depAt l 0
  asc : ∀ j, j + 1 < t.length → depAt t j < depAt t (j + 1) ∧ spdAt t j ≠ spdAt t (j + 1)
  mem : ∀ j, j < t.length → ∃ i, i < k ∧ depAt t j = depAt l i ∧ spdAt t j = spdAt l i
  same : ∀ d, spOf t d = spdK l d k
theorem thin_in {l : List (Int × Int)} (h : Lays l) {k : Nat} (h1 : 1 ≤ k) (hk : k ≤ l.length) : ThinIn l k (thinK l k) := by
  induction k with
  | zero => omega
  | succ k ih =>
    rcases Nat.eq_zero_or_pos k with rfl | hp
    · rw [thinK, kept_zero, if_pos rfl, thinK, List.nil_append]
      refine ⟨⟨0, rfl, by simp [spdAt], by simp [depAt]⟩, by simp, by simp [depAt], fun j hj => by simp at hj, fun j hj => ⟨0, by omega, ?_⟩, fun d => ?_⟩
      · obtain rfl : j = 0 := by simpa using hj
        simp [depAt, spdAt]
      · rw [show [(depAt l 0, spdAt l 0)] = [] ++ [(depAt l 0, spdAt l 0)] from rfl, spOf_snoc]; rfl
    · have I := ih hp (by omega)
      obtain ⟨j, hj, hs, hd⟩ := I.some
      obtain ⟨q, rfl⟩ : ∃ q, k = q + 1 := ⟨k - 1, by omega⟩
      rw [Nat.add_sub_cancel] at hs hd
      have ha := h.asc q (by omega)
      rw [thinK, kept_succ]
      by_cases e : spdAt l q = spdAt l (q + 1)
      · rw [if_neg (by simp [e])]
        refine ⟨⟨j, hj, by rw [Nat.add_sub_cancel]; omega, by rw [Nat.add_sub_cancel]; omega⟩, by have := I.len; omega, I.zero, I.asc, fun i hi => ?_, fun d => ?_⟩
        · obtain ⟨p, hp, r⟩ := I.mem i hi
          exact ⟨p, by omega, r⟩
        · rw [I.same d, show spdK l d (q + 1 + 1) = if depAt l (q + 1) ≤ d then spdAt l (q + 1) else spdK l d (q + 1) from rfl]
          split
          · rw [spdK, if_pos (by omega), e]
          · rfl
      · rw [if_pos (by simpa using e)]
        have sz : (thinK l (q + 1) ++ [(depAt l (q + 1), spdAt l (q + 1))]).length = (thinK l (q + 1)).length + 1 := by simp
        refine ⟨⟨(thinK l (q + 1)).length, sz, by rw [spdAt_snoc, Nat.add_sub_cancel], by rw [depAt_snoc, Nat.add_sub_cancel]; exact Int.le_refl _⟩, by have := I.len; omega, ?_, fun i hi => ?_, fun i hi => ?_, fun d => ?_⟩
        · rw [depAt_app _ _ (by omega), I.zero]
        · rw [sz] at hi
          rw [depAt_app _ _ (by omega), spdAt_app _ _ (by omega)]
          rcases Nat.lt_or_ge (i + 1) (thinK l (q + 1)).length with a | a
          · rw [depAt_app _ _ a, spdAt_app _ _ a]; exact I.asc i a
          · obtain e1 : i + 1 = (thinK l (q + 1)).length := by omega
            rw [e1, depAt_snoc, spdAt_snoc]
            obtain rfl : i = j := by omega
            exact ⟨by omega, by omega⟩
        · rw [sz] at hi
          rcases Nat.lt_or_ge i (thinK l (q + 1)).length with a | a
          · obtain ⟨p, hp, r⟩ := I.mem i a
            rw [depAt_app _ _ a, spdAt_app _ _ a]
            exact ⟨p, by omega, r⟩
          · obtain rfl : i = (thinK l (q + 1)).length := by omega
            rw [depAt_snoc, spdAt_snoc]
            exact ⟨q + 1, by omega, rfl, rfl⟩
        · rw [spOf_snoc, I.same d]; rfl
theorem thin_all {l : List (Int × Int)} (h : Lays l) : ThinIn l l.length (thin l) := thin_in h h.one (Nat.le_refl _)
theorem thin_lays {l : List (Int × Int)} (h : Lays l) : Lays (thin l) := by
  have I := thin_all h
  obtain ⟨j, hj, _⟩ := I.some
  refine ⟨by omega, by have := I.len; have := h.max; omega, I.zero.trans h.zero, fun k hk => ?_, fun k hk => ?_, fun k hk => (I.asc k hk).1⟩
  · obtain ⟨i, hi, e1, e2⟩ := I.mem k hk
    rw [e1]; exact h.dep i hi
  · obtain ⟨i, hi, e1, e2⟩ := I.mem k hk
    rw [e2]; exact h.spd i hi
theorem thin_speed {l : List (Int × Int)} (h : Lays l) (d : Int) : spOf (thin l) d = spOf l d := (thin_all h).same d
theorem thinK_fix {t : List (Int × Int)} (h : ∀ j, j + 1 < t.length → spdAt t j ≠ spdAt t (j + 1)) {k : Nat} (hk : k ≤ t.length) : thinK t k = t.take k := by
  induction k with
  | zero => simp [thinK]
  | succ k ih =>
    have e : kept t k = true := by
      cases k with
      | zero => rfl
      | succ k => rw [kept_succ]; simpa using h k (by omega)
    rw [thinK, e, if_pos rfl, ih (by omega), List.take_succ_eq_append_getElem (by omega)]
    have := lay_at (l := t) (k := k) (by omega)
    rw [List.getElem?_eq_getElem (by omega)] at this
    rw [Option.some.inj this]
theorem thin_thin {l : List (Int × Int)} (h : Lays l) : thin (thin l) = thin l := by
  rw [show thin (thin l) = thinK (thin l) (thin l).length from rfl, thinK_fix (fun j hj => ((thin_all h).asc j hj).2) (Nat.le_refl _), List.take_of_length_le (Nat.le_refl _)]

/-! ### Casts within a bound -/
def samB (a b : List (Int × Int)) (w : Int) : Bool := (a ++ b).all fun p => inB (spOf a p.1 - spOf b p.1) (-w) w
theorem samB_swap (a b : List (Int × Int)) (w : Int) : samB a b w = samB b a w := by
  unfold samB
  rw [List.all_append, List.all_append, Bool.and_comm]
  have e : ∀ d, inB (spOf a d - spOf b d) (-w) w = inB (spOf b d - spOf a d) (-w) w := fun d => by unfold inB; exact decide_eq_decide.2 (by omega)
  simp only [e]
theorem samB_thin {l : List (Int × Int)} (h : Lays l) : samB l (thin l) 0 = true := by
  unfold samB
  rw [List.all_eq_true]
  intro p _
  rw [thin_speed h]
  exact inB_mk (by omega) (by omega)

/-! ### Casts -/
structure KC where
  id : Int
  tm : Int
  x : Int
  y : Int
  l : List (Int × Int)
instance : Inhabited KC := ⟨⟨0, 0, 0, 0, []⟩⟩
def kcAt (L : List KC) (k : Nat) : KC := L.getD k default
theorem kcAt_at {L : List KC} {k : Nat} {v : KC} (h : L[k]? = some v) : kcAt L k = v := by unfold kcAt; rw [List.getD_eq_getElem?_getD, h]; rfl
def castB (v : KC) : Bool := laysB v.l && inB v.id 1 99 && inB v.tm 0 10000 && inB v.x 0 1000 && inB v.y 0 1000
def cstepB (L : List KC) (k : Nat) : Bool := castB (kcAt L k) && (k == 0 || decide ((kcAt L (k - 1)).tm < (kcAt L k).tm)) && (List.range k).all fun j => decide ((kcAt L j).id ≠ (kcAt L k).id)
def cgoodK (L : List KC) (k : Nat) : Bool := (List.range k).all (cstepB L)
def castsB (L : List KC) : Bool := decide (L.length ≤ 6) && cgoodK L L.length
structure Good7 (L : List KC) : Prop where
  max : L.length ≤ 6
  one : ∀ k, k < L.length → castB (kcAt L k) = true
  asc : ∀ k, k + 1 < L.length → (kcAt L k).tm < (kcAt L (k + 1)).tm
  ids : ∀ j k, j < k → k < L.length → (kcAt L j).id ≠ (kcAt L k).id
theorem good7_of {L : List KC} (h : castsB L = true) : Good7 L := by
  unfold castsB cgoodK at h
  rw [Bool.and_eq_true, List.all_eq_true] at h
  have key : ∀ k, k < L.length → (castB (kcAt L k) = true ∧ (k == 0 || decide ((kcAt L (k - 1)).tm < (kcAt L k).tm)) = true) ∧ ((List.range k).all fun j => decide ((kcAt L j).id ≠ (kcAt L k).id)) = true := fun k hk => by
    have h2 := h.2 k (by simpa using hk)
    unfold cstepB at h2
    rw [Bool.and_eq_true, Bool.and_eq_true] at h2
    exact h2
  refine ⟨of_decide_eq_true h.1, fun k hk => (key k hk).1.1, fun k hk => ?_, fun j k hjk hk => ?_⟩
  · have := (key (k + 1) hk).1.2
    simpa using this
  · have := List.all_eq_true.1 (key k hk).2 j (by simpa using hjk)
    exact of_decide_eq_true this
theorem Good7.lt {L : List KC} (h : Good7 L) {p q : Nat} (hpq : p < q) (hq : q < L.length) : (kcAt L p).tm < (kcAt L q).tm := by
  induction q with
  | zero => omega
  | succ q ih =>
    have h1 := h.asc q hq
    rcases Nat.lt_or_ge p q with a | a
    · have := ih a (by omega); omega
    · obtain rfl : p = q := by omega
      exact h1
theorem castB_id {v : KC} (h : castB v = true) : 1 ≤ v.id ∧ v.id ≤ 99 := by
  unfold castB at h
  simp only [Bool.and_eq_true] at h
  exact inB_yes h.1.1.1.2
theorem castB_tm {v : KC} (h : castB v = true) : 0 ≤ v.tm ∧ v.tm ≤ 10000 := by
  unfold castB at h
  simp only [Bool.and_eq_true] at h
  exact inB_yes h.1.1.2
theorem castB_lays {v : KC} (h : castB v = true) : Lays v.l := by
  unfold castB at h
  simp only [Bool.and_eq_true] at h
  exact lays_of h.1.1.1.1
/-! ### The cast at a time -/
def caK (L : List KC) (t : Int) : Nat → Int
  | 0 => 0
  | k + 1 => if (kcAt L k).tm ≤ t then (kcAt L k).id else caK L t k
def caId (L : List KC) (t : Int) : Int := caK L t L.length
theorem caK_past {L : List KC} {t : Int} {k n : Nat} (h1 : k + 1 ≤ n) (hd : (kcAt L k).tm ≤ t) (h3 : ∀ j, k < j → j < n → t < (kcAt L j).tm) : caK L t n = (kcAt L k).id := by
  induction n with
  | zero => omega
  | succ n ih =>
    rw [caK]
    rcases Nat.lt_or_ge k n with a | a
    · rw [if_neg (by have := h3 n a (by omega); omega)]
      exact ih (by omega) (fun j a b => h3 j a (by omega))
    · obtain rfl : k = n := by omega
      rw [if_pos hd]
theorem caK_none {L : List KC} {t : Int} {n : Nat} (h : ∀ j, j < n → t < (kcAt L j).tm) : caK L t n = 0 := by
  induction n with
  | zero => rfl
  | succ n ih => rw [caK, if_neg (by have := h n (by omega); omega)]; exact ih (fun j a => h j (by omega))
theorem caId_hit {L : List KC} (h : Good7 L) {t : Int} {k : Nat} (hk : k < L.length) (hd : (kcAt L k).tm ≤ t) (hn : k + 1 < L.length → t < (kcAt L (k + 1)).tm) : caId L t = (kcAt L k).id :=
  caK_past (by omega) hd (fun j a b => by
    have h1 := hn (by omega)
    rcases Nat.lt_or_ge (k + 1) j with c | c
    · have := h.lt c b; omega
    · obtain rfl : j = k + 1 := by omega
      exact h1)
theorem caId_ex {L : List KC} {t : Int} (n : Nat) : caK L t n = 0 ∨ ∃ k, k < n ∧ (kcAt L k).tm ≤ t ∧ caK L t n = (kcAt L k).id := by
  induction n with
  | zero => exact .inl rfl
  | succ n ih =>
    rw [caK]
    by_cases e : (kcAt L n).tm ≤ t
    · rw [if_pos e]; exact .inr ⟨n, by omega, e, rfl⟩
    · rw [if_neg e]
      rcases ih with a | ⟨k, hk, r⟩
      · exact .inl a
      · exact .inr ⟨k, by omega, r⟩
/-- No cast behind the time has the Id that is told. -/
theorem caId_tm {L : List KC} (h : Good7 L) {t : Int} {i : Nat} (hi : i < L.length) (h0 : 0 < caId L t) (he : (kcAt L i).id = caId L t) : (kcAt L i).tm ≤ t := by
  rcases caId_ex (L := L) (t := t) L.length with a | ⟨k, hk, ht, e⟩
  · unfold caId at h0; omega
  · unfold caId at he
    rw [e] at he
    rcases Nat.lt_trichotomy i k with a | a | a
    · exact absurd he (h.ids i k a hk)
    · rw [a]; exact ht
    · exact absurd he.symm (h.ids k i a hi)

/-! ### The nearest cast -/
def farB (v : KC) (x y : Int) : Int := (v.x - x) * (v.x - x) + (v.y - y) * (v.y - y)
def neK (L : List KC) (x y t w : Int) : Nat → Int × Int
  | 0 => (0, -1)
  | k + 1 => if inB ((kcAt L k).tm - t) (-w) w && (decide ((neK L x y t w k).2 < 0) || decide (farB (kcAt L k) x y < (neK L x y t w k).2)) then ((kcAt L k).id, farB (kcAt L k) x y) else neK L x y t w k
def neId (L : List KC) (x y t w : Int) : Int := (neK L x y t w L.length).1
theorem castB_at {v : KC} (h : castB v = true) : (0 ≤ v.x ∧ v.x ≤ 1000) ∧ (0 ≤ v.y ∧ v.y ≤ 1000) := by
  unfold castB at h
  simp only [Bool.and_eq_true] at h
  exact ⟨inB_yes h.1.2, inB_yes h.2⟩
theorem sq_bd {a : Int} (h1 : -1000 ≤ a) (h2 : a ≤ 1000) : 0 ≤ a * a ∧ a * a ≤ 1000000 := by
  have key : ∀ b : Int, 0 ≤ b → b ≤ 1000 → 0 ≤ b * b ∧ b * b ≤ 1000000 := fun b h0 h1 =>
    ⟨Int.mul_nonneg h0 h0, Int.le_trans (Int.mul_le_mul h1 h1 h0 (by omega)) (by omega)⟩
  rcases Int.le_total 0 a with h | h
  · exact key a h h2
  · have := key (-a) (by omega) (by omega)
    rwa [Int.neg_mul_neg] at this
theorem farB_bd {v : KC} (h : castB v = true) {x y : Int} (hx : 0 ≤ x ∧ x ≤ 1000) (hy : 0 ≤ y ∧ y ≤ 1000) : 0 ≤ farB v x y ∧ farB v x y ≤ 2000000 := by
  have h1 := castB_at h
  have h2 := sq_bd (a := v.x - x) (by omega) (by omega)
  have h3 := sq_bd (a := v.y - y) (by omega) (by omega)
  unfold farB; omega
theorem neK_bd {L : List KC} (h : Good7 L) {x y t w : Int} (hx : 0 ≤ x ∧ x ≤ 1000) (hy : 0 ≤ y ∧ y ≤ 1000) {k : Nat} (hk : k ≤ L.length) :
    (neK L x y t w k = (0, -1) ∨ (1 ≤ (neK L x y t w k).1 ∧ (neK L x y t w k).1 ≤ 99 ∧ 0 ≤ (neK L x y t w k).2 ∧ (neK L x y t w k).2 ≤ 2000000)) := by
  induction k with
  | zero => exact .inl rfl
  | succ k ih =>
    rw [neK]
    split
    · have h1 := castB_id (h.one k (by omega))
      have h2 := farB_bd (h.one k (by omega)) hx hy
      exact .inr ⟨h1.1, h1.2, h2.1, h2.2⟩
    · exact ih (by omega)
theorem neK_yes {L : List KC} {x y t w : Int} {k : Nat} (h1 : inB ((kcAt L k).tm - t) (-w) w = true) (h2 : (neK L x y t w k).2 < 0 ∨ farB (kcAt L k) x y < (neK L x y t w k).2) : neK L x y t w (k + 1) = ((kcAt L k).id, farB (kcAt L k) x y) := by
  rw [neK, if_pos]
  rw [h1, Bool.true_and, Bool.or_eq_true]
  exact h2.imp decide_eq_true decide_eq_true
theorem neK_out {L : List KC} {x y t w : Int} {k : Nat} (h : inB ((kcAt L k).tm - t) (-w) w = false) : neK L x y t w (k + 1) = neK L x y t w k := by
  rw [neK, if_neg (by rw [h]; simp)]
theorem neK_no {L : List KC} {x y t w : Int} {k : Nat} (h1 : ¬ (neK L x y t w k).2 < 0) (h2 : ¬ farB (kcAt L k) x y < (neK L x y t w k).2) : neK L x y t w (k + 1) = neK L x y t w k := by
  rw [neK, if_neg]
  rw [decide_eq_false h1, decide_eq_false h2]; simp
theorem cgoodK_succ (L : List KC) (k : Nat) : cgoodK L (k + 1) = (cgoodK L k && cstepB L k) := by
  unfold cgoodK
  rw [List.range_succ, List.all_append]
  simp
theorem cgoodK_bad {L : List KC} {k n : Nat} (h : k < n) (hb : cstepB L k = false) : cgoodK L n = false := by
  unfold cgoodK
  rw [List.all_eq_false]
  exact ⟨k, by simpa using h, by simpa using hb⟩
theorem cstep_one {L : List KC} {k : Nat} (h : castB (kcAt L k) = false) : cstepB L k = false := by unfold cstepB; rw [h]; rfl
theorem cstep_time {L : List KC} {k : Nat} (h : ¬ (kcAt L k).tm < (kcAt L (k + 1)).tm) : cstepB L (k + 1) = false := by
  unfold cstepB; rw [Nat.add_sub_cancel, decide_eq_false h]; simp
theorem cstep_id {L : List KC} {j k : Nat} (hj : j < k) (h : (kcAt L j).id = (kcAt L k).id) : cstepB L k = false := by
  unfold cstepB
  rw [Bool.and_eq_false_iff]
  exact .inr (List.all_eq_false.2 ⟨j, by simpa using hj, by simp [h]⟩)
theorem cstep_yes {L : List KC} {k : Nat} (h1 : castB (kcAt L k) = true) (h2 : 0 < k → (kcAt L (k - 1)).tm < (kcAt L k).tm) (h3 : ∀ j, j < k → (kcAt L j).id ≠ (kcAt L k).id) : cstepB L k = true := by
  unfold cstepB
  rw [h1, Bool.true_and, Bool.and_eq_true]
  refine ⟨?_, List.all_eq_true.2 fun j hj => decide_eq_true (h3 j (by simpa using hj))⟩
  cases k with
  | zero => rfl
  | succ k => simpa using h2 (by omega)
theorem castsB_long {L : List KC} (h : ¬ L.length ≤ 6) : castsB L = false := by unfold castsB; rw [decide_eq_false h]; rfl
theorem castsB_bad {L : List KC} (h : cgoodK L L.length = false) : castsB L = false := by unfold castsB; rw [h, Bool.and_false]
theorem castsB_good {L : List KC} (h : cgoodK L L.length = true) : castsB L = decide (L.length ≤ 6) := by unfold castsB; rw [h, Bool.and_true]
end Go.Proofs.Ytdmnkmdlochogab
