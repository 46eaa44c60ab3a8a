/-
  Soundings in plain words: limits, agreement, the shoalest, the supported depth, the mean, all lowered. Conditions: stated at each theorem.
-/
import Derived.Test.YtdmnkmdlochogabBase
namespace Go.Proofs.Ytdmnkmdlochogab
set_option linter.unusedSimpArgs false

/-- A sounding. -/
structure SD where
  id : Int
  x : Int
  y : Int
  dep : Int
  dbt : Int
instance : Inhabited SD := ⟨⟨0, 0, 0, 0, 0⟩⟩
def sdAt (L : List SD) (k : Nat) : SD := L.getD k default
theorem sdAt_at {L : List SD} {k : Nat} {v : SD} (h : L[k]? = some v) : sdAt L k = v := by unfold sdAt; rw [List.getD_eq_getElem?_getD, h]; rfl
/-- The limits of a depth are those of chapter 2. -/
def sdB (v : SD) : Bool := inB v.id 1 999 && inB v.x 0 1000 && inB v.y 0 1000 && inB v.dep (-1000) 20000 && inB v.dbt 0 500
def lowS (v : SD) : Int := v.dep - v.dbt
def highS (v : SD) : Int := v.dep + v.dbt
def sstepB (L : List SD) (k : Nat) : Bool := sdB (sdAt L k) && (k == 0 || decide ((sdAt L (k - 1)).id < (sdAt L k).id))
def sgoodK (L : List SD) (k : Nat) : Bool := (List.range k).all (sstepB L)
def sdsB (L : List SD) : Bool := decide (L.length ≤ 12) && sgoodK L L.length
theorem sgoodK_succ (L : List SD) (k : Nat) : sgoodK L (k + 1) = (sgoodK L k && sstepB L k) := by
  unfold sgoodK
  rw [List.range_succ, List.all_append]
  simp
theorem sgoodK_bad {L : List SD} {k n : Nat} (h : k < n) (hb : sstepB L k = false) : sgoodK L n = false := by
  rcases hx : sgoodK L n with _ | _
  · rfl
  · have := List.all_eq_true.1 hx k (by simpa using h)
    rw [this] at hb; cases hb
theorem sdB_parts {v : SD} (h : sdB v = true) : (1 ≤ v.id ∧ v.id ≤ 999) ∧ (0 ≤ v.x ∧ v.x ≤ 1000) ∧ (0 ≤ v.y ∧ v.y ≤ 1000) ∧ (-1000 ≤ v.dep ∧ v.dep ≤ 20000) ∧ (0 ≤ v.dbt ∧ v.dbt ≤ 500) := by
  unfold sdB inB at h
  simp only [Bool.and_eq_true, decide_eq_true_eq] at h
  exact ⟨h.1.1.1.1, h.1.1.1.2, h.1.1.2, h.1.2, h.2⟩
structure Good8 (L : List SD) : Prop where
  max : L.length ≤ 12
  one : ∀ k, k < L.length → sdB (sdAt L k) = true
  asc : ∀ k, k + 1 < L.length → (sdAt L k).id < (sdAt L (k + 1)).id
theorem good8_of {L : List SD} (h : sdsB L = true) : Good8 L := by
  unfold sdsB sgoodK at h
  rw [Bool.and_eq_true, List.all_eq_true] at h
  have key : ∀ k, k < L.length → sdB (sdAt L k) = true ∧ (k == 0 || decide ((sdAt L (k - 1)).id < (sdAt L k).id)) = true := fun k hk => by
    have h2 := h.2 k (by simpa using hk)
    unfold sstepB at h2
    rwa [Bool.and_eq_true] at h2
  refine ⟨of_decide_eq_true h.1, fun k hk => (key k hk).1, fun k hk => ?_⟩
  have := (key (k + 1) hk).2
  simpa using this
theorem good8_mk {L : List SD} (h : Good8 L) : sdsB L = true := by
  unfold sdsB sgoodK
  rw [Bool.and_eq_true, List.all_eq_true]
  refine ⟨decide_eq_true h.max, fun k hk => ?_⟩
  have hk' : k < L.length := by simpa using hk
  unfold sstepB
  rw [Bool.and_eq_true]
  refine ⟨h.one k hk', ?_⟩
  rcases k with _ | k
  · rfl
  · simpa using h.asc k hk'
theorem Good8.lt {L : List SD} (h : Good8 L) {p q : Nat} (hpq : p < q) (hq : q < L.length) : (sdAt L p).id < (sdAt L q).id := by
  induction q with
  | zero => omega
  | succ q ih =>
    have h1 := h.asc q hq
    rcases Nat.lt_or_ge p q with a | a
    · have := ih a (by omega); omega
    · obtain rfl : p = q := by omega
      exact h1

/-! ### The sounding with an id -/
def fdK (L : List SD) (i : Int) : Nat → Int
  | 0 => -1
  | k + 1 => if 0 ≤ fdK L i k then fdK L i k else if (sdAt L k).id = i then k else -1
def fdS (L : List SD) (i : Int) : Int := fdK L i L.length
theorem fdK_none {L : List SD} {i : Int} {n : Nat} (h : ∀ j, j < n → (sdAt L j).id ≠ i) : fdK L i n = -1 := by
  induction n with
  | zero => rfl
  | succ n ih =>
    rw [fdK, ih (fun j hj => h j (by omega)), if_neg (by omega), if_neg (h n (by omega))]
theorem fdK_hit {L : List SD} {i : Int} {k n : Nat} (hk : k < n) (he : (sdAt L k).id = i) (h : ∀ j, j < k → (sdAt L j).id ≠ i) : fdK L i n = k := by
  induction n with
  | zero => omega
  | succ n ih =>
    rcases Nat.lt_or_ge k n with a | a
    · rw [fdK, ih a, if_pos (by omega)]
    · obtain rfl : k = n := by omega
      rw [fdK, fdK_none h, if_neg (by omega), if_pos he]
theorem fdK_ex (L : List SD) (i : Int) (n : Nat) : fdK L i n = -1 ∧ (∀ j, j < n → (sdAt L j).id ≠ i) ∨ ∃ k, k < n ∧ (sdAt L k).id = i ∧ fdK L i n = k := by
  induction n with
  | zero => exact .inl ⟨rfl, fun j hj => by omega⟩
  | succ n ih =>
    rcases ih with ⟨a, b⟩ | ⟨k, hk, he, e⟩
    · by_cases c : (sdAt L n).id = i
      · refine .inr ⟨n, by omega, c, ?_⟩
        rw [fdK, a, if_neg (by omega), if_pos c]
      · refine .inl ⟨by rw [fdK, a, if_neg (by omega), if_neg c], fun j hj => ?_⟩
        rcases Nat.lt_or_ge j n with d | d
        · exact b j d
        · obtain rfl : j = n := by omega
          exact c
    · refine .inr ⟨k, by omega, he, ?_⟩
      rw [fdK, e, if_pos (by omega)]
/-! ### Agreement -/
def agB (u v : SD) : Bool := decide (max (lowS u) (lowS v) ≤ min (highS u) (highS v))
theorem agB_swap (u v : SD) : agB u v = agB v u := by
  unfold agB
  rw [show max (lowS u) (lowS v) = max (lowS v) (lowS u) by omega, show min (highS u) (highS v) = min (highS v) (highS u) by omega]
/-- Least and greatest number in the first k intervals. -/
def loK (L : List SD) : Nat → Int
  | 0 => 0
  | 1 => lowS (sdAt L 0)
  | k + 2 => max (loK L (k + 1)) (lowS (sdAt L (k + 1)))
def hiK (L : List SD) : Nat → Int
  | 0 => 0
  | 1 => highS (sdAt L 0)
  | k + 2 => min (hiK L (k + 1)) (highS (sdAt L (k + 1)))
theorem loK_all {L : List SD} {n k : Nat} (hk : k < n) : lowS (sdAt L k) ≤ loK L n := by
  induction n with
  | zero => omega
  | succ n ih =>
    rcases n with _ | n
    · obtain rfl : k = 0 := by omega
      exact Int.le_refl _
    · rw [loK]
      rcases Nat.lt_or_ge k (n + 1) with a | a
      · have := ih a; omega
      · obtain rfl : k = n + 1 := by omega
        omega
theorem hiK_all {L : List SD} {n k : Nat} (hk : k < n) : hiK L n ≤ highS (sdAt L k) := by
  induction n with
  | zero => omega
  | succ n ih =>
    rcases n with _ | n
    · obtain rfl : k = 0 := by omega
      exact Int.le_refl _
    · rw [hiK]
      rcases Nat.lt_or_ge k (n + 1) with a | a
      · have := ih a; omega
      · obtain rfl : k = n + 1 := by omega
        omega
/-- Where all have a number in common, each two have. -/
theorem ag_all {L : List SD} {n p q : Nat} (h : loK L n ≤ hiK L n) (hp : p < n) (hq : q < n) : agB (sdAt L p) (sdAt L q) = true := by
  have a := loK_all (L := L) hp
  have b := loK_all (L := L) hq
  have c := hiK_all (L := L) hp
  have d := hiK_all (L := L) hq
  exact decide_eq_true (by omega)

/-! ### The shoalest in a box -/
/-- An index that is the first of the least among those that P takes, or -1. -/
def shK (L : List SD) (P : SD → Bool) : Nat → Int
  | 0 => -1
  | k + 1 => if P (sdAt L k) && (decide (shK L P k < 0) || decide (lowS (sdAt L k) < lowS (sdAt L (shK L P k).toNat))) then k else shK L P k
theorem shK_bd (L : List SD) (P : SD → Bool) (n : Nat) : -1 ≤ shK L P n ∧ shK L P n < n := by
  induction n with
  | zero => exact ⟨Int.le_refl _, by show (-1 : Int) < 0; omega⟩
  | succ n ih => rw [shK]; split <;> omega
/-! ### The supported depth -/
/-- (least, some) after k soundings, among those that P takes. -/
def suK (L : List SD) (P : SD → Bool) : Nat → Int × Bool
  | 0 => (0, false)
  | k + 1 => if P (sdAt L k) && (!(suK L P k).2 || decide (lowS (sdAt L k) < (suK L P k).1)) then (lowS (sdAt L k), true) else suK L P k
theorem suK_least {L : List SD} {P : SD → Bool} {n k : Nat} (hk : k < n) (hP : P (sdAt L k) = true) : (suK L P n).2 = true ∧ (suK L P n).1 ≤ lowS (sdAt L k) := by
  induction n with
  | zero => omega
  | succ n ih =>
    rw [suK]
    rcases Nat.lt_or_ge k n with a | a
    · obtain ⟨b, c⟩ := ih a
      split
      · rename_i h
        rw [b] at h
        simp only [Bool.not_true, Bool.false_or, Bool.and_eq_true, decide_eq_true_eq] at h
        refine ⟨rfl, ?_⟩
        show lowS (sdAt L n) ≤ lowS (sdAt L k)
        omega
      · exact ⟨b, c⟩
    · obtain rfl : k = n := by omega
      split
      · exact ⟨rfl, Int.le_refl _⟩
      · rename_i h
        rw [hP, Bool.true_and] at h
        rcases e : (suK L P k).2 with _ | _
        · rw [e] at h; simp at h
        · rw [e] at h
          simp only [Bool.not_true, Bool.false_or, decide_eq_true_eq] at h
          exact ⟨rfl, by omega⟩
/-! ### The mean -/
def smK (L : List SD) : Nat → Int
  | 0 => 0
  | k + 1 => smK L k + (sdAt L k).dep
theorem smK_bd {L : List SD} (h : Good8 L) {k : Nat} (hk : k ≤ L.length) : -1000 * (k : Int) ≤ smK L k ∧ smK L k ≤ 20000 * (k : Int) := by
  induction k with
  | zero => exact ⟨Int.le_refl _, Int.le_refl _⟩
  | succ k ih =>
    obtain ⟨a, b⟩ := ih (by omega)
    obtain ⟨_, _, _, ⟨c, d⟩, _⟩ := sdB_parts (h.one k (by omega))
    rw [smK]
    omega
/-! ### All lowered -/
def lwS (by_ d : Int) (v : SD) : SD := ⟨v.id, v.x, v.y, v.dep + by_, v.dbt + d⟩
def lwL (L : List SD) (by_ d : Int) : List SD := L.map (lwS by_ d)
theorem lwL_at {L : List SD} {by_ d : Int} {k : Nat} (hk : k < L.length) : sdAt (lwL L by_ d) k = lwS by_ d (sdAt L k) := by
  have h : L[k]? = some (sdAt L k) := by rw [List.getElem?_eq_getElem hk]; exact congrArg some (sdAt_at (List.getElem?_eq_getElem hk)).symm
  exact sdAt_at (by unfold lwL; rw [List.getElem?_map, h]; rfl)
theorem smK_lw {L : List SD} {by_ d : Int} {k : Nat} (hk : k ≤ L.length) : smK (lwL L by_ d) k = smK L k + by_ * k := by
  induction k with
  | zero => simp [smK]
  | succ k ih =>
    rw [smK, smK, ih (by omega), lwL_at (by omega)]
    show smK L k + by_ * k + ((sdAt L k).dep + by_) = smK L k + (sdAt L k).dep + by_ * ((k + 1 : Nat) : Int)
    rw [show ((k + 1 : Nat) : Int) = (k : Int) + 1 by omega, Int.mul_add, Int.mul_one]
    omega
/-- The mean of the lowered ones, both in lowest terms (each a fraction of its sum: N * den = S * num's place). -/
theorem mean_lw {S T n a c e f b : Int} (hn : 0 < n) (h1 : a * n = S * c) (h2 : e * n = T * f) (hT : T = S + b * n) : e * c = (a + b * c) * f := by
  have k1 : (e * c) * n = ((a + b * c) * f) * n := by
    have : (e * c) * n = (e * n) * c := by rw [Int.mul_right_comm]
    rw [this, h2, hT]
    have : ((a + b * c) * f) * n = (a * n + b * c * n) * f := by rw [Int.mul_right_comm, Int.add_mul]
    rw [this, h1]
    simp only [Int.add_mul, Int.mul_add, Int.mul_assoc, Int.mul_comm, Int.mul_left_comm]
  exact Int.eq_of_mul_eq_mul_right (by omega) k1
end Go.Proofs.Ytdmnkmdlochogab
