/-
  Survey lines in plain words: limits, cells, counts, lengths, overlaps, plans, the order in which lines are sailed, turns. Conditions: stated at each theorem.
-/
import Derived.Test.YtdmnkmdlochogabBase
namespace Go.Proofs.Ytdmnkmdlochogab
set_option linter.unusedSimpArgs false
set_option linter.unusedVariables false

/-- A survey line. -/
structure LN where
  id : Int
  y : Int
  fr : Int
  to : Int
  sw : Int
instance : Inhabited LN := ⟨⟨0, 0, 0, 0, 0⟩⟩
def lnAt (L : List LN) (k : Nat) : LN := L.getD k default
theorem lnAt_at {L : List LN} {k : Nat} {v : LN} (h : L[k]? = some v) : lnAt L k = v := by unfold lnAt; rw [List.getD_eq_getElem?_getD, h]; rfl
theorem lnAt_get {L : List LN} {k : Nat} (h : k < L.length) : L[k]? = some (lnAt L k) := by
  rw [List.getElem?_eq_getElem h, lnAt_at (List.getElem?_eq_getElem h)]
def lnB (v : LN) : Bool := inB v.id 1 99 && inB v.y 0 1000 && inB v.fr 0 1000 && inB v.to 0 1000 && decide (v.fr < v.to) && inB v.sw 1 300
def lnStep (L : List LN) (k : Nat) : Bool := lnB (lnAt L k) && (k == 0 || decide ((lnAt L (k - 1)).id < (lnAt L k).id))
def lnGoodK (L : List LN) (k : Nat) : Bool := (List.range k).all (lnStep L)
def lnsB (L : List LN) : Bool := decide (L.length ≤ 8) && lnGoodK L L.length
theorem lnGoodK_succ (L : List LN) (k : Nat) : lnGoodK L (k + 1) = (lnGoodK L k && lnStep L k) := by
  unfold lnGoodK
  rw [List.range_succ, List.all_append]
  simp
theorem lnGoodK_bad {L : List LN} {k n : Nat} (h : k < n) (hb : lnStep L k = false) : lnGoodK L n = false := by
  rcases hx : lnGoodK L n with _ | _
  · rfl
  · have := List.all_eq_true.1 hx k (by simpa using h)
    rw [this] at hb; cases hb
theorem lnB_parts {v : LN} (h : lnB v = true) : (1 ≤ v.id ∧ v.id ≤ 99) ∧ (0 ≤ v.y ∧ v.y ≤ 1000) ∧ (0 ≤ v.fr ∧ v.fr ≤ 1000) ∧ (0 ≤ v.to ∧ v.to ≤ 1000) ∧ v.fr < v.to ∧ (1 ≤ v.sw ∧ v.sw ≤ 300) := by
  unfold lnB inB at h
  simp only [Bool.and_eq_true, decide_eq_true_eq] at h
  exact ⟨h.1.1.1.1.1, h.1.1.1.1.2, h.1.1.1.2, h.1.1.2, h.1.2, h.2⟩
theorem lnB_mk {v : LN} (h : (1 ≤ v.id ∧ v.id ≤ 99) ∧ (0 ≤ v.y ∧ v.y ≤ 1000) ∧ (0 ≤ v.fr ∧ v.fr ≤ 1000) ∧ (0 ≤ v.to ∧ v.to ≤ 1000) ∧ v.fr < v.to ∧ (1 ≤ v.sw ∧ v.sw ≤ 300)) : lnB v = true := by
  unfold lnB inB
  simp only [Bool.and_eq_true, decide_eq_true_eq]
  exact ⟨⟨⟨⟨⟨h.1, h.2.1⟩, h.2.2.1⟩, h.2.2.2.1⟩, h.2.2.2.2.1⟩, h.2.2.2.2.2⟩
structure Good9 (L : List LN) : Prop where
  max : L.length ≤ 8
  one : ∀ k, k < L.length → lnB (lnAt L k) = true
  asc : ∀ k, k + 1 < L.length → (lnAt L k).id < (lnAt L (k + 1)).id
theorem good9_of {L : List LN} (h : lnsB L = true) : Good9 L := by
  unfold lnsB lnGoodK at h
  rw [Bool.and_eq_true, List.all_eq_true] at h
  have key : ∀ k, k < L.length → lnB (lnAt L k) = true ∧ (k == 0 || decide ((lnAt L (k - 1)).id < (lnAt L k).id)) = true := fun k hk => by
    have h2 := h.2 k (by simpa using hk)
    unfold lnStep at h2
    rwa [Bool.and_eq_true] at h2
  refine ⟨of_decide_eq_true h.1, fun k hk => (key k hk).1, fun k hk => ?_⟩
  have := (key (k + 1) hk).2
  simpa using this
theorem good9_mk {L : List LN} (h : Good9 L) : lnsB L = true := by
  unfold lnsB lnGoodK
  rw [Bool.and_eq_true, List.all_eq_true]
  refine ⟨decide_eq_true h.max, fun k hk => ?_⟩
  have hk' : k < L.length := by simpa using hk
  unfold lnStep
  rw [Bool.and_eq_true]
  refine ⟨h.one k hk', ?_⟩
  rcases k with _ | k
  · rfl
  · simpa using h.asc k hk'
theorem Good9.lt {L : List LN} (h : Good9 L) {p q : Nat} (hpq : p < q) (hq : q < L.length) : (lnAt L p).id < (lnAt L q).id := by
  induction q with
  | zero => omega
  | succ q ih =>
    have h1 := h.asc q hq
    rcases Nat.lt_or_ge p q with a | a
    · have := ih a (by omega); omega
    · obtain rfl : p = q := by omega
      exact h1
theorem Good9.mem {L : List LN} (h : Good9 L) {v : LN} (hv : v ∈ L) : lnB v = true := by
  obtain ⟨k, hk⟩ := List.getElem?_of_mem hv
  have h1 := h.one k (List.getElem?_eq_some_iff.1 hk).1
  rwa [lnAt_at hk] at h1

/-! ### The line with an id -/
def lfK (L : List LN) (i : Int) : Nat → Int
  | 0 => -1
  | k + 1 => if 0 ≤ lfK L i k then lfK L i k else if (lnAt L k).id = i then k else -1
def lfS (L : List LN) (i : Int) : Int := lfK L i L.length
theorem lfK_none {L : List LN} {i : Int} {n : Nat} (h : ∀ j, j < n → (lnAt L j).id ≠ i) : lfK L i n = -1 := by
  induction n with
  | zero => rfl
  | succ n ih =>
    rw [lfK, ih (fun j hj => h j (by omega)), if_neg (by omega), if_neg (h n (by omega))]
theorem lfK_hit {L : List LN} {i : Int} {k n : Nat} (hk : k < n) (he : (lnAt L k).id = i) (h : ∀ j, j < k → (lnAt L j).id ≠ i) : lfK L i n = k := by
  induction n with
  | zero => omega
  | succ n ih =>
    rcases Nat.lt_or_ge k n with a | a
    · rw [lfK, ih a, if_pos (by omega)]
    · obtain rfl : k = n := by omega
      rw [lfK, lfK_none h, if_neg (by omega), if_pos he]
theorem lfK_ex (L : List LN) (i : Int) (n : Nat) : lfK L i n = -1 ∧ (∀ j, j < n → (lnAt L j).id ≠ i) ∨ ∃ k, k < n ∧ (lnAt L k).id = i ∧ lfK L i n = k := by
  induction n with
  | zero => exact .inl ⟨rfl, fun j hj => by omega⟩
  | succ n ih =>
    rcases ih with ⟨a, b⟩ | ⟨k, hk, he, e⟩
    · by_cases c : (lnAt L n).id = i
      · refine .inr ⟨n, by omega, c, ?_⟩
        rw [lfK, a, if_neg (by omega), if_pos c]
      · refine .inl ⟨by rw [lfK, a, if_neg (by omega), if_neg c], fun j hj => ?_⟩
        rcases Nat.lt_or_ge j n with d | d
        · exact b j d
        · obtain rfl : j = n := by omega
          exact c
    · refine .inr ⟨k, by omega, he, ?_⟩
      rw [lfK, e, if_pos (by omega)]
/-! ### The overlap of two lines -/
def ovN (u v : LN) : Int := max 0 (min (u.y + u.sw) (v.y + v.sw) - max (u.y - u.sw) (v.y - v.sw))
theorem ovN_swap (u v : LN) : ovN u v = ovN v u := by
  unfold ovN
  rw [show min (u.y + u.sw) (v.y + v.sw) = min (v.y + v.sw) (u.y + u.sw) by omega, show max (u.y - u.sw) (v.y - v.sw) = max (v.y - v.sw) (u.y - u.sw) by omega]
/-! ### Lengths -/
def llK (L : List LN) : Nat → Int
  | 0 => 0
  | k + 1 => llK L k + (lnAt L k).to - (lnAt L k).fr
theorem llK_bd {L : List LN} (h : Good9 L) : ∀ k, k ≤ L.length → 0 ≤ llK L k ∧ llK L k ≤ 1000 * k
  | 0, _ => by simp [llK]
  | k + 1, hk => by
    obtain ⟨a, b⟩ := llK_bd h k (by omega)
    obtain ⟨_, _, c, d, e, _⟩ := lnB_parts (h.one k (by omega))
    rw [llK]
    omega
/-! ### Cells -/
/-- The line covers the cell of row r and column c. -/
def cvB (v : LN) (r c : Int) : Bool := decide (v.y - v.sw ≤ r * 50) && decide (r * 50 + 50 ≤ v.y + v.sw) && decide (v.fr ≤ c * 50) && decide (c * 50 + 50 ≤ v.to)
/-- How many of the first k lines cover the cell. -/
def cvK (L : List LN) (r c : Int) : Nat → Nat
  | 0 => 0
  | k + 1 => cvK L r c k + (if cvB (lnAt L k) r c then 1 else 0)
def cvN (L : List LN) (r c : Int) : Nat := cvK L r c L.length
theorem cvK_le (L : List LN) (r c : Int) : ∀ k, cvK L r c k ≤ k
  | 0 => Nat.le_refl _
  | k + 1 => by
    have := cvK_le L r c k
    rw [cvK]
    split <;> omega
/-- The cell lies in the box whole. -/
def whB (w s e n r c : Int) : Bool := decide (s ≤ r * 50) && decide (r * 50 + 50 ≤ n) && decide (w ≤ c * 50) && decide (c * 50 + 50 ≤ e)
/-- How many of the first k columns of row r have P. -/
def rwK (P : Nat → Nat → Bool) (r : Nat) : Nat → Nat
  | 0 => 0
  | k + 1 => rwK P r k + (if P r k then 1 else 0)
/-- How many cells of the first m rows have P. -/
def clK (P : Nat → Nat → Bool) : Nat → Nat
  | 0 => 0
  | m + 1 => clK P m + rwK P m 20
theorem rwK_le (P : Nat → Nat → Bool) (r : Nat) : ∀ k, rwK P r k ≤ k
  | 0 => Nat.le_refl _
  | k + 1 => by
    have := rwK_le P r k
    rw [rwK]
    split <;> omega
theorem clK_le (P : Nat → Nat → Bool) : ∀ m, clK P m ≤ 20 * m
  | 0 => Nat.le_refl _
  | m + 1 => by
    have := clK_le P m
    have := rwK_le P m 20
    rw [clK]
    omega
theorem rwK_mono {P Q : Nat → Nat → Bool} (r : Nat) (h : ∀ c, P r c = true → Q r c = true) : ∀ k, rwK P r k ≤ rwK Q r k
  | 0 => Nat.le_refl _
  | k + 1 => by
    have h1 := rwK_mono r h k
    have h2 := h k
    rw [rwK, rwK]
    rcases hp : P r k with _ | _
    · simp only [Bool.false_eq_true, if_false]; split <;> omega
    · rw [h2 hp]; simp only [if_true]; omega
theorem clK_mono {P Q : Nat → Nat → Bool} (h : ∀ r c, P r c = true → Q r c = true) : ∀ m, clK P m ≤ clK Q m
  | 0 => Nat.le_refl _
  | m + 1 => by
    have h1 := clK_mono h m
    have h2 := rwK_mono m (h m) 20
    rw [clK, clK]
    omega
/-- The cells of the first k columns of row r that have P. -/
def rwL (P : Nat → Nat → Bool) (r : Nat) : Nat → List (Int × Int)
  | 0 => []
  | k + 1 => rwL P r k ++ (if P r k then [((r : Int), (k : Int))] else [])
/-- The cells of the first m rows that have P. -/
def clL (P : Nat → Nat → Bool) : Nat → List (Int × Int)
  | 0 => []
  | m + 1 => clL P m ++ rwL P m 20
theorem rwL_len (P : Nat → Nat → Bool) (r : Nat) : ∀ k, (rwL P r k).length = rwK P r k
  | 0 => rfl
  | k + 1 => by
    rw [rwL, rwK, List.length_append, rwL_len P r k]
    split <;> rfl
theorem clL_len (P : Nat → Nat → Bool) : ∀ m, (clL P m).length = clK P m
  | 0 => rfl
  | m + 1 => by rw [clL, clK, List.length_append, clL_len P m, rwL_len]
theorem rwL_mem {P : Nat → Nat → Bool} {r : Nat} {x : Int × Int} : ∀ k, x ∈ rwL P r k → ∃ c, c < k ∧ P r c = true ∧ x = ((r : Int), (c : Int))
  | 0, h => by cases h
  | k + 1, h => by
    rw [rwL] at h
    rcases List.mem_append.1 h with h | h
    · obtain ⟨c, h1, h2⟩ := rwL_mem k h
      exact ⟨c, by omega, h2⟩
    · split at h
      · rename_i hp
        exact ⟨k, by omega, hp, List.mem_singleton.1 h⟩
      · cases h
theorem clL_mem {P : Nat → Nat → Bool} {x : Int × Int} : ∀ m, x ∈ clL P m → ∃ r c, r < m ∧ c < 20 ∧ P r c = true ∧ x = ((r : Int), (c : Int))
  | 0, h => by cases h
  | m + 1, h => by
    rw [clL] at h
    rcases List.mem_append.1 h with h | h
    · obtain ⟨r, c, h1, h2⟩ := clL_mem m h
      exact ⟨r, c, by omega, h2⟩
    · obtain ⟨c, h1, h2⟩ := rwL_mem 20 h
      exact ⟨m, c, by omega, h1, h2⟩
/-- A formula for the cells of a box: whole columns times whole rows. -/
theorem rwK_span {P : Nat → Nat → Bool} {r a b : Nat} (h : ∀ c, c < 20 → (P r c = true ↔ a ≤ c ∧ c < b)) : ∀ k, k ≤ 20 → rwK P r k = min k b - min k a
  | 0, _ => by simp [rwK]
  | k + 1, hk => by
    rw [rwK, rwK_span h k (by omega)]
    rcases hp : P r k with _ | _
    · have : ¬ (a ≤ k ∧ k < b) := fun e => by rw [(h k (by omega)).2 e] at hp; cases hp
      simp only [Bool.false_eq_true, if_false]
      omega
    · have := (h k (by omega)).1 hp
      simp only [if_true]
      omega
theorem rwK_empty {P : Nat → Nat → Bool} {r : Nat} (h : ∀ c, c < 20 → P r c = false) : ∀ k, k ≤ 20 → rwK P r k = 0
  | 0, _ => rfl
  | k + 1, hk => by
    rw [rwK, rwK_empty h k (by omega), h k (by omega)]
    rfl
/-- Cells whose row has A and whose column has B: rows times columns. -/
def onK (A : Nat → Bool) : Nat → Nat
  | 0 => 0
  | k + 1 => onK A k + (if A k then 1 else 0)
theorem rwK_and (A B : Nat → Bool) (r : Nat) : ∀ k, rwK (fun r c => A r && B c) r k = if A r then onK B k else 0
  | 0 => by simp [rwK, onK]
  | k + 1 => by
    rw [rwK, rwK_and A B r k, onK]
    rcases A r with _ | _ <;> simp
theorem clK_and (A B : Nat → Bool) : ∀ m, clK (fun r c => A r && B c) m = onK A m * onK B 20
  | 0 => by simp [clK, onK]
  | m + 1 => by
    rw [clK, clK_and A B m, rwK_and, show onK A (m + 1) = onK A m + (if A m then 1 else 0) from rfl, Nat.add_mul]
    rcases A m with _ | _ <;> simp
theorem onK_span {A : Nat → Bool} {a b : Nat} (h : ∀ c, c < 20 → (A c = true ↔ a ≤ c ∧ c < b)) : ∀ k, k ≤ 20 → onK A k = min k b - min k a
  | 0, _ => by simp [onK]
  | k + 1, hk => by
    rw [onK, onK_span h k (by omega)]
    rcases hp : A k with _ | _
    · have : ¬ (a ≤ k ∧ k < b) := fun e => by rw [(h k (by omega)).2 e] at hp; cases hp
      simp only [Bool.false_eq_true, if_false]
      omega
    · have := (h k (by omega)).1 hp
      simp only [if_true]
      omega
/-- The whole cells of a box by division. -/
theorem whB_and (w s e n : Int) (r c : Nat) : whB w s e n r c = ((decide (s ≤ (r : Int) * 50) && decide ((r : Int) * 50 + 50 ≤ n)) && (decide (w ≤ (c : Int) * 50) && decide ((c : Int) * 50 + 50 ≤ e))) := by
  unfold whB
  simp only [Bool.and_assoc]
theorem side_span {lo hi : Int} (h0 : 0 ≤ lo) (h1 : hi ≤ 1000) (h2 : lo ≤ hi) (c : Nat) : (decide (lo ≤ (c : Int) * 50) && decide ((c : Int) * 50 + 50 ≤ hi)) = true ↔ ((lo + 49) / 50).toNat ≤ c ∧ c < (hi / 50).toNat := by
  simp only [Bool.and_eq_true, decide_eq_true_eq]
  omega
theorem cells_in {w s e n : Int} (hw : 0 ≤ w) (he : e ≤ 1000) (hwe : w ≤ e) (hs : 0 ≤ s) (hn : n ≤ 1000) (hsn : s ≤ n) :
    clK (fun r c => whB w s e n r c) 20 = ((n / 50).toNat - ((s + 49) / 50).toNat) * ((e / 50).toNat - ((w + 49) / 50).toNat) := by
  have h1 : (fun r c : Nat => whB w s e n r c) = fun r c : Nat => (fun r : Nat => decide (s ≤ (r : Int) * 50) && decide ((r : Int) * 50 + 50 ≤ n)) r && (fun c : Nat => decide (w ≤ (c : Int) * 50) && decide ((c : Int) * 50 + 50 ≤ e)) c := by
    funext r c; exact whB_and w s e n r c
  rw [h1, clK_and, onK_span (fun c _ => side_span hs hn hsn c) 20 (Nat.le_refl _), onK_span (fun c _ => side_span hw he hwe c) 20 (Nat.le_refl _)]
  congr 1 <;> omega
/-! ### Plans -/
/-- The Y of line k of a plan. -/
def plY (s n sw : Int) (k : Nat) : Int := min (s + 2 * sw * k + sw) n
/-- How far the first k lines of a plan see. -/
def plSeen (s n sw : Int) : Nat → Int
  | 0 => s
  | k + 1 => min (plSeen s n sw k + sw) n + sw
theorem plSeen_is {s n sw : Int} (hsw : 1 ≤ sw) : ∀ k, (∀ j, 0 < j → j ≤ k → plSeen s n sw j < n) → plSeen s n sw k = s + 2 * sw * k
  | 0, _ => by simp [plSeen]
  | k + 1, h => by
    have h1 := plSeen_is hsw k (fun j h0 hj => h j h0 (by omega))
    have h2 := h (k + 1) (by omega) (by omega)
    have e : 2 * sw * ((k + 1 : Nat) : Int) = 2 * sw * k + 2 * sw := by rw [Int.natCast_add, Int.mul_add]; omega
    rw [plSeen, h1] at h2
    rw [plSeen, h1, e]
    omega
def plV (w e s n sw : Int) (k : Nat) : LN := ⟨k + 1, min (plSeen s n sw k + sw) n, w, e, sw⟩
def plL (w e s n sw : Int) (k : Nat) : List LN := (List.range k).map (plV w e s n sw)
theorem plL_len (w e s n sw : Int) (k : Nat) : (plL w e s n sw k).length = k := by simp [plL]
theorem plL_succ (w e s n sw : Int) (k : Nat) : plL w e s n sw (k + 1) = plL w e s n sw k ++ [plV w e s n sw k] := by
  unfold plL
  rw [List.range_succ, List.map_append]
  rfl
theorem plL_at {w e s n sw : Int} {k j : Nat} (h : j < k) : (plL w e s n sw k)[j]? = some (plV w e s n sw j) := by
  simp [plL, h]
/-- A plan of m lines ends there: all lines before it leave something unseen, and it sees all. -/
structure PlEnd (s n sw : Int) (m : Nat) : Prop where
  pos : 0 < m
  unseen : ∀ j, 0 < j → j < m → plSeen s n sw j < n
  seen : n ≤ plSeen s n sw m
theorem plSeen_ge {s n sw : Int} (hsw : 1 ≤ sw) (k : Nat) (h : ∀ j, 0 < j → j ≤ k → plSeen s n sw j < n) : s + 2 * (k : Int) ≤ plSeen s n sw k := by
  rw [plSeen_is hsw k h, show 2 * sw * (k : Int) = 2 * (k : Int) * sw by rw [Int.mul_assoc, Int.mul_comm sw, ← Int.mul_assoc]]
  have : 2 * (k : Int) * 1 ≤ 2 * (k : Int) * sw := Int.mul_le_mul_of_nonneg_left hsw (by omega)
  omega
theorem plEnd_gap {s n sw : Int} {m : Nat} (h : PlEnd s n sw m) (hsw : 1 ≤ sw) (hm : 1 < m) : ((m : Int) - 1) * 2 * sw < n - s := by
  obtain ⟨j, rfl⟩ : ∃ j, m = j + 1 := ⟨m - 1, by omega⟩
  have h1 := h.unseen j (by omega) (by omega)
  rw [plSeen_is hsw j (fun i h0 hi => h.unseen i h0 (by omega))] at h1
  rw [show (((j + 1 : Nat) : Int) - 1) * 2 * sw = 2 * sw * j by
    rw [show (((j + 1 : Nat) : Int) - 1) = (j : Int) by omega, Int.mul_assoc, Int.mul_comm]]
  omega
theorem plEnd_first {w e s n sw : Int} : (plV w e s n sw 0).y - sw ≤ s := by
  show min (s + sw) n - sw ≤ s
  omega
theorem plEnd_last {w e s n sw : Int} {m : Nat} (h : PlEnd s n sw m) : n ≤ (plV w e s n sw (m - 1)).y + sw := by
  obtain ⟨j, rfl⟩ : ∃ j, m = j + 1 := ⟨m - 1, by have := h.pos; omega⟩
  have := h.seen
  rw [plSeen] at this
  simpa [plV] using this
theorem plEnd_step {w e s n sw : Int} {m k : Nat} (h : PlEnd s n sw m) (hsw : 1 ≤ sw) (hk : k + 1 < m) : (plV w e s n sw (k + 1)).y - (plV w e s n sw k).y ≤ 2 * sw ∧ (plV w e s n sw k).y ≤ (plV w e s n sw (k + 1)).y := by
  have h1 := h.unseen (k + 1) (by omega) hk
  show min (plSeen s n sw (k + 1) + sw) n - min (plSeen s n sw k + sw) n ≤ 2 * sw ∧ min (plSeen s n sw k + sw) n ≤ min (plSeen s n sw (k + 1) + sw) n
  rw [plSeen] at h1 ⊢
  omega
theorem plSeen_le {s n sw : Int} (hsw : 1 ≤ sw) : ∀ k : Nat, (0 < k → s + 2 * sw * (k : Int) < n) → plSeen s n sw k = s + 2 * sw * k
  | 0, _ => by simp [plSeen]
  | k + 1, h => by
    have h0 := h (by omega)
    have e : 2 * sw * ((k + 1 : Nat) : Int) = 2 * sw * k + 2 * sw := by rw [Int.natCast_add, Int.mul_add]; omega
    rw [e] at h0 ⊢
    rw [plSeen, plSeen_le hsw k (fun _ => by omega)]
    omega
/-- The number of the lines by a formula. -/
theorem plEnd_mk {s n sw : Int} {m : Nat} (hsw : 1 ≤ sw) (h0 : 0 < m) (h1 : 1 < m → s + 2 * sw * (m - 1 : Nat) < n) (h2 : n ≤ s + 2 * sw * m) : PlEnd s n sw m := by
  have mono : ∀ j k : Nat, j ≤ k → 2 * sw * (j : Int) ≤ 2 * sw * (k : Int) := fun j k hjk => Int.mul_le_mul_of_nonneg_left (by omega) (by omega)
  refine ⟨h0, fun j hj hjm => ?_, ?_⟩
  · have a := mono j (m - 1) (by omega)
    have b := h1 (by omega)
    rw [plSeen_le hsw j (fun _ => by omega)]
    omega
  · obtain ⟨j, rfl⟩ : ∃ j, m = j + 1 := ⟨m - 1, by omega⟩
    have e : 2 * sw * ((j + 1 : Nat) : Int) = 2 * sw * j + 2 * sw := by rw [Int.natCast_add, Int.mul_add]; omega
    rw [e] at h2
    rw [plSeen, plSeen_le hsw j (fun hj => by have := h1 (by omega); simpa using this)]
    omega
theorem plV_y {w e s n sw : Int} {m k : Nat} (h : PlEnd s n sw m) (hsw : 1 ≤ sw) (hk : k < m) : (plV w e s n sw k).y = min (s + 2 * sw * k + sw) n := by
  show min (plSeen s n sw k + sw) n = _
  rw [plSeen_is hsw k (fun j h0 hj => h.unseen j h0 (by omega))]
theorem plL_good {w e s n sw : Int} {m : Nat} (h : PlEnd s n sw m) (hm : m ≤ 8) (hw : 0 ≤ w ∧ w ≤ 1000) (he : 0 ≤ e ∧ e ≤ 1000) (hwe : w < e) (hs : 0 ≤ s) (hn : n ≤ 1000) (hsn : s ≤ n) (hsw : 1 ≤ sw ∧ sw ≤ 300) : Good9 (plL w e s n sw m) := by
  have at_ : ∀ k, k < m → lnAt (plL w e s n sw m) k = plV w e s n sw k := fun k hk => lnAt_at (plL_at hk)
  refine ⟨by rw [plL_len]; exact hm, fun k hk => ?_, fun k hk => ?_⟩
  · rw [plL_len] at hk
    rw [at_ k hk]
    have h1 : s ≤ plSeen s n sw k := by
      rcases k with _ | k
      · exact Int.le_refl _
      · have := plSeen_ge hsw.1 (k + 1) (fun j h0 hj => h.unseen j h0 (by omega))
        omega
    refine lnB_mk ⟨⟨?_, ?_⟩, ⟨?_, ?_⟩, hw, he, hwe, hsw⟩
    · show 1 ≤ (k : Int) + 1; omega
    · show (k : Int) + 1 ≤ 99; omega
    · show 0 ≤ min (plSeen s n sw k + sw) n; omega
    · show min (plSeen s n sw k + sw) n ≤ 1000; omega
  · rw [plL_len] at hk
    rw [at_ k (by omega), at_ (k + 1) hk]
    show (k : Int) + 1 < ((k + 1 : Nat) : Int) + 1
    omega
theorem plEnd_one {s n sw : Int} {m m' : Nat} (h : PlEnd s n sw m) (h' : PlEnd s n sw m') : m = m' := by
  rcases Nat.lt_trichotomy m m' with a | a | a
  · have := h'.unseen m h.pos a
    have := h.seen
    omega
  · exact a
  · have := h.unseen m' h'.pos a
    have := h'.seen
    omega
/-! ### The order in which lines are sailed -/
/-- u is sailed ahead of v. -/
def sbB (u v : LN) : Prop := u.y < v.y ∨ u.y = v.y ∧ u.id < v.id
theorem sbB_asymm {u v : LN} (h : sbB u v) (h' : sbB v u) : False := by
  unfold sbB at h h'
  omega
/-- v is put behind all that are not farther north. -/
def insS (v : LN) : List LN → List LN
  | [] => [v]
  | u :: M => if v.y < u.y then v :: u :: M else u :: insS v M
def ordK (L : List LN) : Nat → List LN
  | 0 => []
  | k + 1 => insS (lnAt L k) (ordK L k)
def ordS (L : List LN) : List LN := ordK L L.length
theorem insS_perm (v : LN) : ∀ M, (insS v M).Perm (v :: M)
  | [] => List.Perm.refl _
  | u :: M => by
    rw [insS]
    split
    · exact List.Perm.refl _
    · exact ((insS_perm v M).cons u).trans (List.Perm.swap v u M)
theorem insS_len (v : LN) (M : List LN) : (insS v M).length = M.length + 1 := by
  rw [(insS_perm v M).length_eq]; rfl
theorem ordK_perm (L : List LN) : ∀ k, k ≤ L.length → (ordK L k).Perm (L.take k)
  | 0, _ => by simp [ordK]
  | k + 1, hk => by
    have h1 := ordK_perm L k (by omega)
    have e : L.take (k + 1) = L.take k ++ [lnAt L k] := by
      rw [List.take_add_one, lnAt_get (by omega)]; rfl
    rw [ordK, e]
    exact (insS_perm _ _).trans ((h1.cons _).trans (List.perm_append_singleton _ _).symm)
theorem ordS_perm (L : List LN) : (ordS L).Perm L := by
  have := ordK_perm L L.length (Nat.le_refl _)
  rwa [List.take_length] at this
theorem ordS_len (L : List LN) : (ordS L).length = L.length := (ordS_perm L).length_eq
theorem insS_sorted {v : LN} : ∀ {M : List LN}, M.Pairwise sbB → (∀ u ∈ M, u.id < v.id) → (insS v M).Pairwise sbB
  | [], _, _ => by simp [insS]
  | u :: M, hM, hv => by
    rw [List.pairwise_cons] at hM
    rw [insS]
    split
    · rename_i hlt
      rw [List.pairwise_cons, List.pairwise_cons]
      refine ⟨fun x hx => ?_, hM⟩
      rcases List.mem_cons.1 hx with rfl | hx
      · exact .inl hlt
      · have := hM.1 x hx
        unfold sbB at this ⊢
        omega
    · rename_i hlt
      rw [List.pairwise_cons]
      refine ⟨fun x hx => ?_, insS_sorted hM.2 (fun x hx => hv x (List.mem_cons_of_mem _ hx))⟩
      rcases List.mem_cons.1 ((insS_perm v M).mem_iff.1 hx) with rfl | hx
      · have := hv u (List.mem_cons_self ..)
        unfold sbB
        omega
      · exact hM.1 x hx
theorem ordK_sorted {L : List LN} (h : ∀ p q : Nat, p < q → q < L.length → (lnAt L p).id < (lnAt L q).id) : ∀ k, k ≤ L.length → (ordK L k).Pairwise sbB
  | 0, _ => by simp [ordK]
  | k + 1, hk => by
    rw [ordK]
    refine insS_sorted (ordK_sorted h k (by omega)) (fun u hu => ?_)
    have hu2 := (ordK_perm L k (by omega)).mem_iff.1 hu
    obtain ⟨j, hj⟩ := List.getElem?_of_mem hu2
    rw [List.getElem?_take] at hj
    split at hj
    · rename_i hjk
      have := h j k hjk (by omega)
      rwa [lnAt_at hj] at this
    · cases hj
theorem ordS_sorted {L : List LN} (h : Good9 L) : (ordS L).Pairwise sbB := ordK_sorted (fun _ _ hpq hq => h.lt hpq hq) L.length (Nat.le_refl _)
/-- Whatever is in this order and has the same lines is the same row. -/
theorem sorted_same : ∀ {M N : List LN}, M.Pairwise sbB → N.Pairwise sbB → M.Perm N → M = N
  | [], N, _, _, hp => by rw [List.nil_perm.1 hp]
  | u :: M, N, hM, hN, hp => by
    match N, hN, hp with
    | [], _, hp => exact absurd (List.perm_nil.1 hp) (by simp)
    | v :: N, hN, hp =>
      have hM' := List.pairwise_cons.1 hM
      have hN' := List.pairwise_cons.1 hN
      have huv : u = v := by
        rcases List.mem_cons.1 (hp.mem_iff.1 (List.mem_cons_self ..)) with h | h
        · exact h
        · rcases List.mem_cons.1 (hp.mem_iff.2 (List.mem_cons_self ..)) with h2 | h2
          · exact h2.symm
          · exact (sbB_asymm (hM'.1 v h2) (hN'.1 u h)).elim
      subst huv
      rw [sorted_same hM'.2 hN'.2 ((List.perm_cons u).1 hp)]
/-! ### Turns -/
/-- The turn behind line k - 1 of the order M. -/
def tuB (a b : LN) (even : Bool) : Int := b.y - a.y + (if even then max (a.fr - b.fr) (-(a.fr - b.fr)) else max (a.to - b.to) (-(a.to - b.to)))
def tuK (M : List LN) : Nat → Int
  | 0 => 0
  | k + 1 => tuK M k + tuB (lnAt M k) (lnAt M (k + 1)) ((k + 1) % 2 == 0)
theorem tuB_nonneg {a b : LN} {even : Bool} (h : a.y ≤ b.y) : 0 ≤ tuB a b even := by
  unfold tuB
  split <;> omega
theorem tuK_nonneg {M : List LN} (h : M.Pairwise sbB) : ∀ k, k + 1 ≤ M.length → 0 ≤ tuK M k
  | 0, _ => by simp [tuK]
  | k + 1, hk => by
    have h1 := tuK_nonneg h k (by omega)
    have h2 : sbB (lnAt M k) (lnAt M (k + 1)) := by
      have := (List.pairwise_iff_getElem.1 h) k (k + 1) (by omega) (by omega) (by omega)
      rw [lnAt_at (List.getElem?_eq_getElem (show k < M.length by omega)), lnAt_at (List.getElem?_eq_getElem (show k + 1 < M.length by omega))]
      exact this
    have h3 := tuB_nonneg (a := lnAt M k) (b := lnAt M (k + 1)) (even := (k + 1) % 2 == 0) (by unfold sbB at h2; omega)
    rw [tuK]
    omega
theorem tuK_le {M : List LN} (h : ∀ v ∈ M, lnB v = true) : ∀ k, k + 1 ≤ M.length → tuK M k ≤ 2000 * k ∧ -2000 * (k : Int) ≤ tuK M k
  | 0, _ => by simp [tuK]
  | k + 1, hk => by
    have h1 := tuK_le h k (by omega)
    obtain ⟨_, a1, a2, a3, _, _⟩ := lnB_parts (h _ (List.mem_of_getElem? (lnAt_get (L := M) (k := k) (by omega))))
    obtain ⟨_, b1, b2, b3, _, _⟩ := lnB_parts (h _ (List.mem_of_getElem? (lnAt_get (L := M) (k := k + 1) (by omega))))
    rw [tuK]
    unfold tuB
    split <;> omega
end Go.Proofs.Ytdmnkmdlochogab
