/-
  Passes in plain words: limits and order, minutes on a line, busy minutes, good pings, lines that are sailed, opposite courses, breaks, a pass that is put in its place. Conditions: stated at each theorem.
-/
import Derived.Test.YtllfmjnniagjfaaKq
namespace Go.Proofs.Ytllfmjnniagjfaa
set_option linter.unusedSimpArgs false
set_option linter.unusedVariables false

/-- A pass. -/
structure PS where
  ln : Int
  bg : Int
  en : Int
  pi : Int
  bd : Int
  co : Int
instance : Inhabited PS := ⟨⟨0, 0, 0, 0, 0, 0⟩⟩
def psAt (L : List PS) (k : Nat) : PS := L.getD k default
theorem psAt_at {L : List PS} {k : Nat} {v : PS} (h : L[k]? = some v) : psAt L k = v := by unfold psAt; rw [List.getD_eq_getElem?_getD, h]; rfl
theorem psAt_get {L : List PS} {k : Nat} (h : k < L.length) : L[k]? = some (psAt L k) := by
  rw [List.getElem?_eq_getElem h, psAt_at (List.getElem?_eq_getElem h)]
theorem take_snocJ {L : List PS} {k : Nat} (hk : k < L.length) : L.take (k + 1) = L.take k ++ [psAt L k] := by
  rw [List.take_succ_eq_append_getElem hk, psAt_at (List.getElem?_eq_getElem hk)]
def psB (v : PS) : Bool := inB v.ln 1 999 && inB v.en 0 10000 && inB v.bg 0 (v.en - 1) && inB v.pi 0 100000 && inB v.bd 0 v.pi && inB v.co 0 359
structure PsG (v : PS) : Prop where
  l0 : 1 ≤ v.ln
  l1 : v.ln ≤ 999
  b0 : 0 ≤ v.bg
  be : v.bg < v.en
  e1 : v.en ≤ 10000
  p0 : 0 ≤ v.pi
  p1 : v.pi ≤ 100000
  d0 : 0 ≤ v.bd
  d1 : v.bd ≤ v.pi
  c0 : 0 ≤ v.co
  c1 : v.co ≤ 359
theorem psB_iff (v : PS) : psB v = true ↔ PsG v := by
  unfold psB inB
  simp only [Bool.and_eq_true, decide_eq_true_eq]
  constructor
  · rintro ⟨⟨⟨⟨⟨h1, h2⟩, h3⟩, h4⟩, h5⟩, h6⟩
    exact ⟨h1.1, h1.2, h3.1, by omega, h2.2, h4.1, h4.2, h5.1, h5.2, h6.1, h6.2⟩
  · intro h
    have := h.be
    have := h.b0
    exact ⟨⟨⟨⟨⟨⟨h.l0, h.l1⟩, by omega, h.e1⟩, h.b0, by omega⟩, h.p0, h.p1⟩, h.d0, h.d1⟩, h.c0, h.c1⟩
theorem psB_no {v : PS} (h : ¬ PsG v) : psB v = false := by
  rcases hx : psB v with _ | _
  · rfl
  · exact absurd ((psB_iff v).1 hx) h
def pordB (L : List PS) (k : Nat) : Bool := decide (k = 0) || decide ((psAt L (k - 1)).en ≤ (psAt L k).bg)
def pstepB (L : List PS) (k : Nat) : Bool := psB (psAt L k) && pordB L k
def pgoodK (L : List PS) (k : Nat) : Bool := (List.range k).all (pstepB L)
def pssB (L : List PS) : Bool := decide (L.length ≤ 12) && pgoodK L L.length
theorem pgoodK_succ (L : List PS) (k : Nat) : pgoodK L (k + 1) = (pgoodK L k && pstepB L k) := by
  unfold pgoodK
  rw [List.range_succ, List.all_append]
  simp
theorem pgoodK_bad {L : List PS} {k n : Nat} (h : k < n) (hb : pstepB L k = false) : pgoodK L n = false := by
  rcases hx : pgoodK L n with _ | _
  · rfl
  · have := List.all_eq_true.1 hx k (by simpa using h)
    rw [this] at hb; cases hb
theorem pss_long {L : List PS} (h : ¬ L.length ≤ 12) : pssB L = false := by unfold pssB; rw [decide_eq_false h]; rfl
theorem pss_bad {L : List PS} {k : Nat} (h : k < L.length) (hb : pstepB L k = false) : pssB L = false := by unfold pssB; rw [pgoodK_bad h hb, Bool.and_false]
theorem pss_fine {L : List PS} (h : L.length ≤ 12) (hb : pgoodK L L.length = true) : pssB L = true := by unfold pssB; rw [hb, decide_eq_true h]; rfl
theorem pstep_invalid {L : List PS} {k : Nat} {v : PS} (h : L[k]? = some v) (hb : psB v = false) : pstepB L k = false := by unfold pstepB; rw [psAt_at h, hb]; rfl
theorem pstep_order {L : List PS} {k : Nat} {v v' : PS} (h : L[k + 1]? = some v) (h' : L[k]? = some v') (hb : ¬ v'.en ≤ v.bg) : pstepB L (k + 1) = false := by
  unfold pstepB pordB; rw [psAt_at h, Nat.add_sub_cancel, psAt_at h', decide_eq_false hb]; simp
theorem pstep_fine0 {L : List PS} {v : PS} (h : L[0]? = some v) (hb : psB v = true) : pstepB L 0 = true := by unfold pstepB pordB; rw [psAt_at h, hb]; rfl
theorem pstep_fine {L : List PS} {k : Nat} {v v' : PS} (h : L[k + 1]? = some v) (h' : L[k]? = some v') (hb : psB v = true) (ho : v'.en ≤ v.bg) : pstepB L (k + 1) = true := by
  unfold pstepB pordB; rw [psAt_at h, Nat.add_sub_cancel, psAt_at h', hb, decide_eq_true ho]; simp
structure Good11 (L : List PS) : Prop where
  max : L.length ≤ 12
  one : ∀ k, k < L.length → PsG (psAt L k)
  ord : ∀ k, k + 1 < L.length → (psAt L k).en ≤ (psAt L (k + 1)).bg
theorem good11_of {L : List PS} (h : pssB L = true) : Good11 L := by
  unfold pssB pgoodK at h
  rw [Bool.and_eq_true, List.all_eq_true] at h
  have key : ∀ k, k < L.length → psB (psAt L k) = true ∧ pordB L k = true := fun k hk => by
    have h2 := h.2 k (by simpa using hk)
    unfold pstepB at h2
    rwa [Bool.and_eq_true] at h2
  refine ⟨of_decide_eq_true h.1, fun k hk => (psB_iff _).1 (key k hk).1, fun k hk => ?_⟩
  have h2 := (key (k + 1) hk).2
  unfold pordB at h2
  simpa using h2
theorem good11_mk {L : List PS} (h : Good11 L) : pssB L = true := by
  unfold pssB pgoodK
  rw [Bool.and_eq_true, List.all_eq_true]
  refine ⟨decide_eq_true h.max, fun k hk => ?_⟩
  have hk' : k < L.length := by simpa using hk
  unfold pstepB pordB
  rw [Bool.and_eq_true]
  refine ⟨(psB_iff _).2 (h.one k hk'), ?_⟩
  rcases k with _ | k
  · rfl
  · have := h.ord k hk'
    simpa using this
/-- Each pass ends before the later ones begin. -/
theorem ps_order {L : List PS} (h : Good11 L) : ∀ (d i : Nat), i + d + 1 < L.length → (psAt L i).en ≤ (psAt L (i + d + 1)).bg
  | 0, i, hk => h.ord i hk
  | d + 1, i, hk => by
    have h1 := ps_order h d i (by omega)
    have h2 := (h.one (i + d + 1) (by omega)).be
    have h3 := h.ord (i + d + 1) (by omega)
    have e : i + (d + 1) + 1 = i + d + 1 + 1 := by omega
    rw [e]
    omega
theorem ps_before {L : List PS} (h : Good11 L) {i k : Nat} (hi : i < k) (hk : k < L.length) : (psAt L i).en ≤ (psAt L k).bg := by
  have := ps_order h (k - i - 1) i (by omega)
  rwa [show i + (k - i - 1) + 1 = k by omega] at this
/-! ### Minutes on a line -/
def mnS (L : List PS) (l : Int) : Nat → Int
  | 0 => 0
  | k + 1 => if (psAt L k).ln = l then mnS L l k + (psAt L k).en - (psAt L k).bg else mnS L l k
/-- All minutes on lines. -/
def mnT (L : List PS) : Nat → Int
  | 0 => 0
  | k + 1 => mnT L k + (psAt L k).en - (psAt L k).bg
def enK (L : List PS) (k : Nat) : Int := if k = 0 then 0 else (psAt L (k - 1)).en
theorem enK_le {L : List PS} (h : Good11 L) {k : Nat} (hk : k ≤ L.length) : 0 ≤ enK L k ∧ enK L k ≤ 10000 := by
  unfold enK
  split
  · omega
  · have g := h.one (k - 1) (by omega)
    have := g.b0
    have := g.be
    have := g.e1
    omega
theorem enK_bg {L : List PS} (h : Good11 L) {k : Nat} (hk : k < L.length) : enK L k ≤ (psAt L k).bg := by
  unfold enK
  split
  · exact (h.one k hk).b0
  · exact ps_before h (by omega) hk
theorem mnT_bd {L : List PS} (h : Good11 L) : ∀ {k : Nat}, k ≤ L.length → 0 ≤ mnT L k ∧ mnT L k ≤ enK L k
  | 0, _ => by simp [mnT, enK]
  | k + 1, hk => by
    have h1 := mnT_bd h (k := k) (by omega)
    have h2 := enK_bg h (k := k) (by omega)
    have h3 := (h.one k (by omega)).be
    have e : enK L (k + 1) = (psAt L k).en := by unfold enK; rw [if_neg (by omega), Nat.add_sub_cancel]
    rw [mnT, e]
    omega
theorem mnS_bd {L : List PS} (h : Good11 L) (l : Int) : ∀ {k : Nat}, k ≤ L.length → 0 ≤ mnS L l k ∧ mnS L l k ≤ mnT L k
  | 0, _ => by simp [mnT, mnS]
  | k + 1, hk => by
    have h1 := mnS_bd h l (k := k) (by omega)
    have h3 := (h.one k (by omega)).be
    rw [mnS, mnT]
    split <;> omega
theorem mnS_top {L : List PS} (h : Good11 L) (l : Int) {k : Nat} (hk : k ≤ L.length) : 0 ≤ mnS L l k ∧ mnS L l k ≤ 10000 := by
  have h1 := mnS_bd h l hk
  have h2 := mnT_bd h hk
  have h3 := enK_le h hk
  omega
/-! ### Busy minutes -/
def bzI (v : PS) (f t : Int) : Int := max 0 (min t v.en - max f v.bg)
def bzS (L : List PS) (f t : Int) : Nat → Int
  | 0 => 0
  | k + 1 => bzS L f t k + bzI (psAt L k) f t
theorem bz_bd {L : List PS} (h : Good11 L) {f t : Int} (hf : 0 ≤ f) (ht : f < t) : ∀ {k : Nat}, k ≤ L.length → 0 ≤ bzS L f t k ∧ bzS L f t k ≤ max 0 (min t (enK L k) - f)
  | 0, _ => by simp [bzS]; omega
  | k + 1, hk => by
    have h1 := bz_bd h hf ht (k := k) (by omega)
    have h2 := enK_bg h (k := k) (by omega)
    have h3 := (h.one k (by omega)).be
    have e : enK L (k + 1) = (psAt L k).en := by unfold enK; rw [if_neg (by omega), Nat.add_sub_cancel]
    rw [bzS, e]
    unfold bzI
    omega
theorem bz_le {L : List PS} (h : Good11 L) {f t : Int} (hf : 0 ≤ f) (ht : f < t) {k : Nat} (hk : k ≤ L.length) : 0 ≤ bzS L f t k ∧ bzS L f t k ≤ t - f := by
  have := bz_bd h hf ht hk
  omega
/-- From the first minute to the last the busy ones are all of the passes. -/
theorem bz_all {L : List PS} (h : Good11 L) : ∀ {k : Nat}, k ≤ L.length → bzS L 0 10000 k = mnT L k
  | 0, _ => rfl
  | k + 1, hk => by
    have h1 := bz_all h (k := k) (by omega)
    have h3 := h.one k (by omega)
    have := h3.b0
    have := h3.be
    have := h3.e1
    rw [bzS, mnT, h1]
    unfold bzI
    omega
/-! ### Pings -/
def gpS (L : List PS) (l : Int) : Nat → Int
  | 0 => 0
  | k + 1 => if (psAt L k).ln = l then gpS L l k + (psAt L k).pi - (psAt L k).bd else gpS L l k
def apS (L : List PS) (l : Int) : Nat → Int
  | 0 => 0
  | k + 1 => if (psAt L k).ln = l then apS L l k + (psAt L k).pi else apS L l k
theorem pings_bd {L : List PS} (h : Good11 L) (l : Int) : ∀ {k : Nat}, k ≤ L.length → 0 ≤ gpS L l k ∧ gpS L l k ≤ apS L l k ∧ apS L l k ≤ 100000 * (k : Int)
  | 0, _ => by simp [gpS, apS]
  | k + 1, hk => by
    have h1 := pings_bd h l (k := k) (by omega)
    have h3 := h.one k (by omega)
    have := h3.p0
    have := h3.p1
    have := h3.d0
    have := h3.d1
    rw [gpS, apS]
    split <;> omega
theorem apS_none {L : List PS} {l : Int} : ∀ {k : Nat}, (∀ j, j < k → (psAt L j).ln ≠ l) → apS L l k = 0
  | 0, _ => rfl
  | k + 1, h => by
    rw [apS, if_neg (h k (by omega))]
    exact apS_none fun j hj => h j (by omega)
def sailB (L : List PS) (l : Int) : Bool := decide (0 < apS L l L.length) && decide (9 * apS L l L.length ≤ 10 * gpS L l L.length)
theorem sail_occ {L : List PS} {l : Int} (h : sailB L l = true) : ∃ j, j < L.length ∧ (psAt L j).ln = l := by
  unfold sailB at h
  rw [Bool.and_eq_true] at h
  have h0 := of_decide_eq_true h.1
  refine Classical.byContradiction fun hn => ?_
  have : apS L l L.length = 0 := apS_none fun j hj he => hn ⟨j, hj, he⟩
  omega
/-! ### Lines that are sailed -/
theorem sorted_same : ∀ {xs ys : List Int}, xs.Pairwise (· < ·) → ys.Pairwise (· < ·) → (∀ x, x ∈ xs ↔ x ∈ ys) → xs = ys
  | [], [], _, _, _ => rfl
  | [], y :: ys, _, _, h => absurd ((h y).2 (by simp)) (by simp)
  | x :: xs, [], _, _, h => absurd ((h x).1 (by simp)) (by simp)
  | x :: xs, y :: ys, hx, hy, h => by
    rw [List.pairwise_cons] at hx hy
    have hxy : x = y := by
      have h1 : x ∈ y :: ys := (h x).1 (by simp)
      have h2 : y ∈ x :: xs := (h y).2 (by simp)
      rcases List.mem_cons.1 h1 with e | e
      · exact e
      · rcases List.mem_cons.1 h2 with e2 | e2
        · exact e2.symm
        · have := hy.1 x e
          have := hx.1 y e2
          omega
    subst hxy
    congr 1
    refine sorted_same hx.2 hy.2 fun z => ?_
    constructor
    · intro hz
      have := hx.1 z hz
      rcases List.mem_cons.1 ((h z).1 (by simp [hz])) with e | e
      · omega
      · exact e
    · intro hz
      have := hy.1 z hz
      rcases List.mem_cons.1 ((h z).2 (by simp [hz])) with e | e
      · omega
      · exact e
def sdL (L : List PS) : Nat → List Int
  | 0 => []
  | k + 1 => if sailB L (psAt L k).ln = true then insL (sdL L k) (psAt L k).ln else sdL L k
theorem sdL_sorted (L : List PS) : ∀ k, (sdL L k).Pairwise (· < ·)
  | 0 => by simp [sdL]
  | k + 1 => by
    rw [sdL]
    split
    · exact insL_sorted (sdL_sorted L k)
    · exact sdL_sorted L k
theorem sdL_len (L : List PS) : ∀ k, (sdL L k).length ≤ k
  | 0 => by simp [sdL]
  | k + 1 => by
    have h1 := sdL_len L k
    have h2 := insL_len (sdL L k) (psAt L k).ln
    rw [sdL]
    split <;> omega
theorem sdL_mem {L : List PS} {y : Int} : ∀ {k : Nat}, y ∈ sdL L k ↔ sailB L y = true ∧ ∃ j, j < k ∧ (psAt L j).ln = y
  | 0 => by simp [sdL]
  | k + 1 => by
    rw [sdL]
    by_cases h : sailB L (psAt L k).ln = true
    · rw [if_pos h, insL_mem, sdL_mem (k := k)]
      constructor
      · rintro (⟨h1, j, hj, e⟩ | rfl)
        · exact ⟨h1, j, by omega, e⟩
        · exact ⟨h, k, by omega, rfl⟩
      · rintro ⟨h1, j, hj, e⟩
        rcases Nat.lt_or_ge j k with a | a
        · exact .inl ⟨h1, j, a, e⟩
        · obtain rfl : j = k := by omega
          exact .inr e.symm
    · rw [if_neg h, sdL_mem (k := k)]
      constructor
      · rintro ⟨h1, j, hj, e⟩
        exact ⟨h1, j, by omega, e⟩
      · rintro ⟨h1, j, hj, e⟩
        rcases Nat.lt_or_ge j k with a | a
        · exact ⟨h1, j, a, e⟩
        · obtain rfl : j = k := by omega
          rw [e] at h
          exact absurd h1 h
/-- The lines that are sailed: those and no others, in ascending order. -/
theorem sdL_iff {L : List PS} {y : Int} : y ∈ sdL L L.length ↔ sailB L y = true := by
  rw [sdL_mem]
  exact ⟨fun h => h.1, fun h => ⟨h, sail_occ h⟩⟩
theorem sdL_is {L : List PS} {xs : List Int} (hs : xs.Pairwise (· < ·)) (h : ∀ y, y ∈ xs ↔ sailB L y = true) : xs = sdL L L.length :=
  sorted_same hs (sdL_sorted L _) fun y => by rw [h, sdL_iff]
/-! ### Lines to repeat -/
def riseB (P : List Int) (k : Nat) : Bool := (List.range k).all fun i => inB (P.getD i 0) 1 999 && (decide (i = 0) || decide (P.getD (i - 1) 0 < P.getD i 0))
theorem riseB_succ (P : List Int) (k : Nat) : riseB P (k + 1) = (riseB P k && (inB (P.getD k 0) 1 999 && (decide (k = 0) || decide (P.getD (k - 1) 0 < P.getD k 0)))) := by
  unfold riseB
  rw [List.range_succ, List.all_append]
  simp
def plnB (P : List Int) : Bool := decide (P.length ≤ 30) && riseB P P.length
def rpL (L : List PS) (P : List Int) : List Int := P.filter fun y => !sailB L y
theorem rpL_mem {L : List PS} {P : List Int} {y : Int} : y ∈ rpL L P ↔ y ∈ P ∧ sailB L y = false := by
  unfold rpL
  rw [List.mem_filter]
  simp
/-- A planned line is sailed or to repeat, and not both. -/
theorem rp_or {L : List PS} {P : List Int} {y : Int} (h : y ∈ P) : (y ∈ rpL L P ↔ ¬ y ∈ sdL L L.length) := by
  rw [rpL_mem, sdL_iff]
  simp [h]
/-! ### Opposite courses -/
def opB (a b : Int) : Bool := inB ((b - a + 360) % 360) 170 190
def opP (L : List PS) (l : Int) (i k : Nat) : Bool := decide ((psAt L i).ln = l) && decide ((psAt L k).ln = l) && opB (psAt L i).co (psAt L k).co
/-- The pairs of i with those behind it, up to k. -/
def opI (L : List PS) (l : Int) (i : Nat) : Nat → List (Nat × Nat)
  | 0 => []
  | d + 1 => opI L l i d ++ (if opP L l i (i + 1 + d) = true then [(i, i + 1 + d)] else [])
def opL (L : List PS) (l : Int) : Nat → List (Nat × Nat)
  | 0 => []
  | i + 1 => opL L l i ++ opI L l i (L.length - i - 1)
theorem opI_mem {L : List PS} {l : Int} {i : Nat} {p : Nat × Nat} : ∀ {d : Nat}, p ∈ opI L l i d → p.1 = i ∧ i < p.2 ∧ p.2 ≤ i + d ∧ opP L l i p.2 = true
  | 0, h => by simp [opI] at h
  | d + 1, h => by
    rw [opI, List.mem_append] at h
    rcases h with h | h
    · obtain ⟨a, b, c, e⟩ := opI_mem h
      exact ⟨a, b, by omega, e⟩
    · split at h
      · rename_i hp
        obtain rfl : p = (i, i + 1 + d) := by simpa using h
        exact ⟨rfl, by simp; omega, by simp; omega, hp⟩
      · simp at h
theorem opL_mem {L : List PS} {l : Int} {p : Nat × Nat} : ∀ {i : Nat}, i ≤ L.length → p ∈ opL L l i → p.1 < p.2 ∧ p.2 < L.length ∧ (psAt L p.1).ln = l ∧ (psAt L p.2).ln = l
  | 0, _, h => by simp [opL] at h
  | i + 1, hi, h => by
    rw [opL, List.mem_append] at h
    rcases h with h | h
    · exact opL_mem (by omega) h
    · obtain ⟨a, b, c, e⟩ := opI_mem h
      unfold opP at e
      simp only [Bool.and_eq_true, decide_eq_true_eq] at e
      rw [a]
      exact ⟨b, by omega, e.1.1, e.1.2⟩
theorem opI_len (L : List PS) (l : Int) (i : Nat) : ∀ d, (opI L l i d).length ≤ d
  | 0 => by simp [opI]
  | d + 1 => by
    have := opI_len L l i d
    rw [opI, List.length_append]
    split <;> simp <;> omega
/-! ### Breaks -/
def brI (L : List PS) (k : Nat) : Int := (psAt L k).bg - (psAt L (k - 1)).en
/-- The index of the pass behind the longest break, of those up to k + 1. -/
def lbK (L : List PS) : Nat → Nat
  | 0 => 1
  | k + 1 => if brI L (lbK L k) < brI L (k + 2) then k + 2 else lbK L k
theorem lbK_le (L : List PS) : ∀ k, 1 ≤ lbK L k ∧ lbK L k ≤ k + 1
  | 0 => by simp [lbK]
  | k + 1 => by
    have := lbK_le L k
    rw [lbK]
    split <;> omega
theorem lbK_most (L : List PS) : ∀ k j, 1 ≤ j → j ≤ k + 1 → brI L j ≤ brI L (lbK L k)
  | 0, j, h1, h2 => by
    obtain rfl : j = 1 := by omega
    exact Int.le_refl _
  | k + 1, j, h1, h2 => by
    rw [lbK]
    split
    · rcases Nat.lt_or_ge j (k + 2) with a | a
      · have := lbK_most L k j h1 (by omega)
        omega
      · obtain rfl : j = k + 2 := by omega
        exact Int.le_refl _
    · rcases Nat.lt_or_ge j (k + 2) with a | a
      · exact lbK_most L k j h1 (by omega)
      · obtain rfl : j = k + 2 := by omega
        omega
theorem brI_bd {L : List PS} (h : Good11 L) {k : Nat} (h1 : 1 ≤ k) (hk : k < L.length) : 0 ≤ brI L k ∧ brI L k ≤ 10000 := by
  have h2 := ps_before h (i := k - 1) (k := k) (by omega) hk
  have h3 := h.one k hk
  have h4 := h.one (k - 1) (by omega)
  have := h3.be
  have := h3.e1
  have := h4.b0
  have := h4.be
  unfold brI
  omega
/-! ### A pass that is put in its place -/
/-- How many of the first passes begin before b. -/
def ppK (L : List PS) (b : Int) : Nat := L.findIdx fun v => decide (b ≤ v.bg)
theorem ppK_le (L : List PS) (b : Int) : ppK L b ≤ L.length := List.findIdx_le_length
theorem ppK_is {L : List PS} {b : Int} {k : Nat} (hk : k ≤ L.length) (h1 : ∀ j, j < k → (psAt L j).bg < b) (h2 : k < L.length → b ≤ (psAt L k).bg) : ppK L b = k := by
  unfold ppK
  have hat : ∀ j (hj : j < L.length), L[j] = psAt L j := fun j hj => (psAt_at (List.getElem?_eq_getElem hj)).symm
  rcases Nat.lt_or_ge k L.length with h | h
  · rw [List.findIdx_eq h]
    refine ⟨by rw [hat]; exact decide_eq_true (h2 h), fun j hj => ?_⟩
    have := h1 j hj
    rw [hat]
    exact decide_eq_false (by omega)
  · obtain rfl : k = L.length := by omega
    rw [List.findIdx_eq_length]
    intro x hx
    obtain ⟨j, hj, rfl⟩ := List.getElem_of_mem hx
    have := h1 j hj
    rw [hat]
    exact decide_eq_false (by omega)
def ppL (L : List PS) (p : PS) : List PS := L.take (ppK L p.bg) ++ p :: L.drop (ppK L p.bg)
theorem ppL_len (L : List PS) (p : PS) : (ppL L p).length = L.length + 1 := by
  have := ppK_le L p.bg
  unfold ppL
  simp
  omega
def mnX (M : List PS) (l : Int) : Int := (M.map fun v => if v.ln = l then v.en - v.bg else 0).sum
theorem mnS_sum {L : List PS} {l : Int} : ∀ {k : Nat}, k ≤ L.length → mnS L l k = mnX (L.take k) l
  | 0, _ => by simp [mnS, mnX]
  | k + 1, hk => by
    have h1 := mnS_sum (L := L) (l := l) (k := k) (by omega)
    rw [take_snocJ (by omega), mnS, h1]
    unfold mnX
    simp only [List.map_append, List.map_cons, List.map_nil, List.sum_append, List.sum_cons, List.sum_nil]
    split <;> omega
/-- A pass that is put adds its minutes to its line. -/
theorem pp_minutes (L : List PS) (p : PS) : mnS (ppL L p) p.ln (ppL L p).length = mnS L p.ln L.length + (p.en - p.bg) := by
  rw [mnS_sum (Nat.le_refl _), mnS_sum (Nat.le_refl _), List.take_length, List.take_length]
  have hL : L = L.take (ppK L p.bg) ++ L.drop (ppK L p.bg) := (List.take_append_drop _ _).symm
  have e1 : mnX L p.ln = mnX (L.take (ppK L p.bg)) p.ln + mnX (L.drop (ppK L p.bg)) p.ln := by
    conv => lhs; rw [hL]
    unfold mnX
    simp only [List.map_append, List.sum_append]
  have e2 : mnX (ppL L p) p.ln = mnX (L.take (ppK L p.bg)) p.ln + ((p.en - p.bg) + mnX (L.drop (ppK L p.bg)) p.ln) := by
    unfold ppL mnX
    simp only [List.map_append, List.map_cons, List.sum_append, List.sum_cons, if_true]
  rw [e1, e2]
  omega
theorem pp_at {L : List PS} {p : PS} : (ppL L p)[ppK L p.bg]? = some p := by
  have := ppK_le L p.bg
  unfold ppL
  rw [List.getElem?_append_right (by simp; omega)]
  simp [Nat.min_eq_left this]
/-- What is valid with a pass has a valid pass. -/
theorem pp_valid {L : List PS} {p : PS} (h : pssB (ppL L p) = true) : psB p = true := by
  have hk := (List.getElem?_eq_some_iff.1 (pp_at (L := L) (p := p))).1
  have := (good11_of h).one _ hk
  rw [psAt_at pp_at] at this
  exact (psB_iff _).2 this
end Go.Proofs.Ytllfmjnniagjfaa
