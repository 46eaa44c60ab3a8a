/-
  Tracks in plain words: limits, spikes, keep lists, kept depths, medians, shoal filters, roughness, smooth parts, shoaler places, flattened tracks. Conditions: stated at each theorem.
-/
import Derived.Test.YtjekmmekkfmplaaBase
import Derived.Test.YtjekmmekkfmplaaTc
namespace Go.Proofs.Ytjekmmekkfmplaa
set_option linter.unusedSimpArgs false
set_option linter.unusedVariables false

theorem list_snocE {T : List Int} {k : Nat} (hk : k < T.length) : T.take (k + 1) = T.take k ++ [T.getD k 0] := by
  rw [List.take_succ_eq_append_getElem hk, List.getD_eq_getElem?_getD, List.getElem?_eq_getElem hk]; rfl
theorem getD_set_eq {T : List Int} {k : Nat} (hk : k < T.length) (x : Int) : (T.set k x).getD k 0 = x := by
  rw [List.getD_eq_getElem?_getD, List.getElem?_set_self hk]; rfl
theorem getD_set_ne {T : List Int} {k j : Nat} (h : k ≠ j) (x : Int) : (T.set k x).getD j 0 = T.getD j 0 := by
  rw [List.getD_eq_getElem?_getD, List.getElem?_set_ne h, ← List.getD_eq_getElem?_getD]
/-! ### Tracks -/
def trK (T : List Int) (k : Nat) : Bool := (List.range k).all fun i => inB (T.getD i 0) (-1000) 20000
def trB (T : List Int) : Bool := trK T T.length && inB (T.length : Int) 3 30
theorem trK_succ (T : List Int) (k : Nat) : trK T (k + 1) = (trK T k && inB (T.getD k 0) (-1000) 20000) := by
  unfold trK
  rw [List.range_succ, List.all_append]
  simp
theorem trK_bad {T : List Int} {k n : Nat} (h : k < n) (hb : inB (T.getD k 0) (-1000) 20000 = false) : trK T n = false := by
  rcases hx : trK T n with _ | _
  · rfl
  · have := List.all_eq_true.1 hx k (by simpa using h)
    rw [this] at hb; cases hb
structure Trk (T : List Int) : Prop where
  lo : 3 ≤ T.length
  hi : T.length ≤ 30
  one : ∀ k, k < T.length → -1000 ≤ T.getD k 0 ∧ T.getD k 0 ≤ 20000
theorem trk_of {T : List Int} (h : trB T = true) : Trk T := by
  unfold trB trK at h
  rw [Bool.and_eq_true, List.all_eq_true] at h
  have h2 := inB_yes h.2
  exact ⟨by omega, by omega, fun k hk => inB_yes (h.1 k (by simpa using hk))⟩
theorem trB_mk {T : List Int} (h : Trk T) : trB T = true := by
  unfold trB trK
  rw [Bool.and_eq_true, List.all_eq_true]
  have := h.lo
  have := h.hi
  refine ⟨fun k hk => ?_, inB_mk (by omega) (by omega)⟩
  obtain ⟨a, b⟩ := h.one k (by simpa using hk)
  exact inB_mk a b
theorem tr_bad {T : List Int} {k : Nat} (h : k < T.length) (hb : inB (T.getD k 0) (-1000) 20000 = false) : trB T = false := by unfold trB; rw [trK_bad h hb]; rfl
theorem tr_len {T : List Int} (h : inB (T.length : Int) 3 30 = false) : trB T = false := by unfold trB; rw [h, Bool.and_false]
theorem tr_fine {T : List Int} (h : trK T T.length = true) (h2 : inB (T.length : Int) 3 30 = true) : trB T = true := by unfold trB; rw [h, h2]; rfl
def lmB (l : Int) : Bool := inB l 1 5000
def akB (T : List Int) (l : Int) : Bool := trB T && lmB l
theorem ak_1 {T : List Int} {l : Int} (h : trB T = false) : akB T l = false := by unfold akB; rw [h]; rfl
theorem ak_2 {T : List Int} {l : Int} (h : lmB l = false) : akB T l = false := by unfold akB; rw [h, Bool.and_false]
theorem ak_3 {T : List Int} {l : Int} (h : trB T = true) (h2 : lmB l = true) : akB T l = true := by unfold akB; rw [h, h2]; rfl
theorem ak_is {T : List Int} {l : Int} (h : akB T l = true) : Trk T ∧ 1 ≤ l ∧ l ≤ 5000 := by
  unfold akB lmB at h
  rw [Bool.and_eq_true] at h
  have := inB_yes h.2
  exact ⟨trk_of h.1, this.1, this.2⟩
/-! ### What a loop collects -/
def coL (P : Nat → Bool) (f : Nat → Int) : Nat → List Int
  | 0 => []
  | k + 1 => coL P f k ++ (if P k = true then [f k] else [])
theorem coL_no {P : Nat → Bool} {f : Nat → Int} {k : Nat} (h : P k = false) : coL P f (k + 1) = coL P f k := by rw [coL, h]; simp
theorem coL_yes {P : Nat → Bool} {f : Nat → Int} {k : Nat} (h : P k = true) : coL P f (k + 1) = coL P f k ++ [f k] := by rw [coL, if_pos h]
theorem coL_len (P : Nat → Bool) (f : Nat → Int) : ∀ k, (coL P f k).length ≤ k
  | 0 => by simp [coL]
  | k + 1 => by
    have := coL_len P f k
    rw [coL, List.length_append]
    split <;> simp <;> omega
theorem coL_mem {P : Nat → Bool} {f : Nat → Int} {x : Int} : ∀ {k : Nat}, x ∈ coL P f k ↔ ∃ i, i < k ∧ P i = true ∧ f i = x
  | 0 => by simp [coL]
  | k + 1 => by
    rw [coL, List.mem_append, coL_mem (k := k)]
    constructor
    · rintro (⟨i, hi, hp, e⟩ | h)
      · exact ⟨i, by omega, hp, e⟩
      · split at h
        · rename_i hp
          exact ⟨k, by omega, hp, (List.mem_singleton.1 h).symm⟩
        · simp at h
    · rintro ⟨i, hi, hp, e⟩
      rcases Nat.lt_or_ge i k with a | a
      · exact .inl ⟨i, a, hp, e⟩
      · obtain rfl : i = k := by omega
        refine .inr ?_
        rw [if_pos hp, e]
        simp
/-! ### Spikes -/
def upB (T : List Int) (l : Int) (i : Nat) : Bool := decide (T.getD i 0 < T.getD (i - 1) 0 - l) && decide (T.getD i 0 < T.getD (i + 1) 0 - l)
def dnB (T : List Int) (l : Int) (i : Nat) : Bool := decide (T.getD i 0 > T.getD (i - 1) 0 + l) && decide (T.getD i 0 > T.getD (i + 1) 0 + l)
def upL (T : List Int) (l : Int) (k : Nat) : List Int := coL (fun k => upB T l (k + 1)) (fun k => ((k + 1 : Nat) : Int)) k
def dnL (T : List Int) (l : Int) (k : Nat) : List Int := coL (fun k => dnB T l (k + 1)) (fun k => ((k + 1 : Nat) : Int)) k
def upS (T : List Int) (l : Int) : List Int := upL T l (T.length - 2)
def dnS (T : List Int) (l : Int) : List Int := dnL T l (T.length - 2)
theorem up_not_dn {T : List Int} {l : Int} (hl : 0 ≤ l) {i : Nat} (h : upB T l i = true) : dnB T l i = false := by
  unfold upB at h
  unfold dnB
  rw [Bool.and_eq_true] at h
  have := of_decide_eq_true h.1
  rw [decide_eq_false (by omega)]
  rfl
/-- No place is a spike both ways. -/
theorem spikes_apart {T : List Int} {l : Int} (hl : 0 ≤ l) {x : Int} (h : x ∈ upS T l) : ¬ x ∈ dnS T l := by
  intro h2
  unfold upS upL at h
  unfold dnS dnL at h2
  obtain ⟨i, _, hp, e⟩ := coL_mem.1 h
  obtain ⟨j, _, hq, e2⟩ := coL_mem.1 h2
  obtain rfl : i = j := by omega
  rw [up_not_dn hl hp] at hq
  cases hq
/-! ### Keep lists -/
def kpK (D : List Int) : Nat → List Int
  | 0 => []
  | k + 1 => kpK D k ++ [if decide ((k : Int) ∈ D) = true then 0 else 1]
theorem kpK_len (D : List Int) : ∀ k, (kpK D k).length = k
  | 0 => rfl
  | k + 1 => by rw [kpK, List.length_append, kpK_len D k]; rfl
theorem kpK_at (D : List Int) : ∀ {n k : Nat}, k < n → (kpK D n).getD k 0 = if decide ((k : Int) ∈ D) = true then 0 else 1
  | 0, k, h => absurd h (by omega)
  | n + 1, k, h => by
    rw [kpK, List.getD_eq_getElem?_getD]
    rcases Nat.lt_or_ge k n with a | a
    · rw [List.getElem?_append_left (by rw [kpK_len]; exact a), ← List.getD_eq_getElem?_getD]
      exact kpK_at D a
    · obtain rfl : k = n := by omega
      rw [List.getElem?_append_right (by rw [kpK_len]; exact Nat.le_refl _), kpK_len, Nat.sub_self]
      rfl
def keB (K : List Int) (k : Nat) : Bool := (List.range k).all fun i => inB (K.getD i 0) 0 1
theorem keB_succ (K : List Int) (k : Nat) : keB K (k + 1) = (keB K k && inB (K.getD k 0) 0 1) := by
  unfold keB
  rw [List.range_succ, List.all_append]
  simp
theorem keB_bad {K : List Int} {k n : Nat} (h : k < n) (hb : inB (K.getD k 0) 0 1 = false) : keB K n = false := by
  rcases hx : keB K n with _ | _
  · rfl
  · have := List.all_eq_true.1 hx k (by simpa using h)
    rw [this] at hb; cases hb
/-- The depths that are kept, of the first k. -/
def ktL (T K : List Int) (k : Nat) : List Int := coL (fun k => decide (K.getD k 0 = 1)) (fun k => T.getD k 0) k
def suS (K : List Int) : Nat → Int
  | 0 => 0
  | k + 1 => suS K k + K.getD k 0
theorem keB_kp (D : List Int) (n : Nat) : keB (kpK D n) n = true := by
  unfold keB
  rw [List.all_eq_true]
  intro k hk
  have hk' : k < n := by simpa using hk
  rw [kpK_at D hk']
  split <;> rfl
/-- As many are kept as the keep list's numbers say, and those that are rejected are the ones told. -/
theorem kept_sum {T K : List Int} : ∀ {k : Nat}, keB K k = true → ((ktL T K k).length : Int) = suS K k
  | 0, _ => rfl
  | k + 1, h => by
    rw [keB_succ, Bool.and_eq_true] at h
    have ih := kept_sum (T := T) h.1
    have h2 := inB_yes h.2
    unfold ktL at ih ⊢
    rw [coL, suS, List.length_append]
    by_cases e : K.getD k 0 = 1
    · rw [if_pos (by simpa using e)]
      simp only [List.length_singleton]
      omega
    · rw [if_neg (by simpa using e)]
      simp only [List.length_nil]
      omega
/-- How many of the first k places a list of places holds. -/
def inN (D : List Int) : Nat → Nat
  | 0 => 0
  | k + 1 => inN D k + (if decide ((k : Int) ∈ D) = true then 1 else 0)
theorem suS_kp (D : List Int) (n : Nat) : ∀ {k : Nat}, k ≤ n → suS (kpK D n) k + (inN D k : Int) = k
  | 0, _ => rfl
  | k + 1, hk => by
    have ih := suS_kp D n (k := k) (by omega)
    rw [suS, inN, kpK_at D (by omega)]
    split <;> omega
theorem inN_none {D : List Int} : ∀ {k : Nat}, (∀ x ∈ D, (k : Int) ≤ x) → inN D k = 0
  | 0, _ => rfl
  | k + 1, h => by
    have ih := inN_none (D := D) (k := k) (fun x hx => by have := h x hx; omega)
    rw [inN, ih, if_neg]
    simp only [decide_eq_true_eq]
    intro hm
    have := h _ hm
    omega
theorem dn_at {T : List Int} {l : Int} {n : Nat} {k : Nat} (hk : k < n) : decide (((k + 1 : Nat) : Int) ∈ dnL T l n) = dnB T l (k + 1) := by
  rcases h : dnB T l (k + 1) with _ | _
  · refine decide_eq_false fun hm => ?_
    unfold dnL at hm
    obtain ⟨i, _, hp, e⟩ := coL_mem.1 hm
    obtain rfl : i = k := by omega
    rw [hp] at h
    cases h
  · refine decide_eq_true ?_
    unfold dnL
    exact coL_mem.2 ⟨k, hk, h, rfl⟩
theorem dn_zero {T : List Int} {l : Int} {n : Nat} : decide (((0 : Nat) : Int) ∈ dnL T l n) = false := by
  refine decide_eq_false fun hm => ?_
  unfold dnL at hm
  obtain ⟨i, _, _, e⟩ := coL_mem.1 hm
  omega
/-- The spikes down are as many as the places that they take. -/
theorem inN_dn {T : List Int} {l : Int} {n : Nat} : ∀ {k : Nat}, k ≤ n → inN (dnL T l n) (k + 1) = (dnL T l k).length
  | 0, _ => by
    rw [inN, dn_zero]
    rfl
  | k + 1, hk => by
    have ih := inN_dn (T := T) (l := l) (n := n) (k := k) (by omega)
    rw [inN, ih, dn_at (by omega)]
    conv => rhs; unfold dnL; rw [coL]
    rw [List.length_append]
    have e : (dnL T l k).length = (coL (fun k => dnB T l (k + 1)) (fun k => ((k + 1 : Nat) : Int)) k).length := rfl
    rw [e]
    rcases dnB T l (k + 1) with _ | _ <;> simp
theorem dn_last {T : List Int} {l : Int} {n : Nat} : decide (((n + 1 : Nat) : Int) ∈ dnL T l n) = false := by
  refine decide_eq_false fun hm => ?_
  unfold dnL at hm
  obtain ⟨i, hi, _, e⟩ := coL_mem.1 hm
  omega
/-- What RejectDown keeps and the spikes down are all of the track. -/
theorem kept_down {T : List Int} {l : Int} (h : 3 ≤ T.length) : (ktL T (kpK (dnS T l) T.length) T.length).length + (dnS T l).length = T.length := by
  have h1 := kept_sum (T := T) (keB_kp (dnS T l) T.length)
  have h2 := suS_kp (dnS T l) T.length (Nat.le_refl _)
  obtain ⟨n, hn⟩ : ∃ n, T.length = n + 2 := ⟨T.length - 2, by omega⟩
  have e : dnS T l = dnL T l n := by unfold dnS; rw [hn, Nat.add_sub_cancel]
  have h3 := inN_dn (T := T) (l := l) (n := n) (k := n) (Nat.le_refl _)
  have h4 : inN (dnL T l n) (n + 2) = (dnL T l n).length := by
    rw [inN, h3, dn_last]
    simp
  rw [e] at h1 h2 ⊢
  rw [hn] at h1 h2 ⊢
  rw [h4] at h2
  omega
/-! ### Medians -/
def mdI (a b c : Int) : Int := max (min a b) (min (max a b) c)
def mdT (T : List Int) (j : Nat) : Int := mdI (T.getD (j - 1) 0) (T.getD j 0) (T.getD (j + 1) 0)
def mfK (T : List Int) : Nat → List Int
  | 0 => T
  | k + 1 => (mfK T k).set (k + 1) (mdT T (k + 1))
def mfL (T : List Int) : List Int := mfK T (T.length - 2)
theorem mfK_len (T : List Int) : ∀ k, (mfK T k).length = T.length
  | 0 => rfl
  | k + 1 => by rw [mfK, List.length_set, mfK_len T k]
theorem mfK_at (T : List Int) : ∀ {k j : Nat}, k + 1 < T.length → j < T.length → (mfK T k).getD j 0 = if 1 ≤ j ∧ j ≤ k then mdT T j else T.getD j 0
  | 0, j, _, _ => by rw [mfK, if_neg (by omega)]
  | k + 1, j, hk, hj => by
    rw [mfK]
    by_cases e : k + 1 = j
    · subst e
      rw [getD_set_eq (by rw [mfK_len]; exact hj), if_pos (by omega)]
    · rw [getD_set_ne e, mfK_at T (by omega) hj]
      by_cases a : 1 ≤ j ∧ j ≤ k
      · rw [if_pos a, if_pos (by omega)]
      · rw [if_neg a, if_neg (by omega)]
theorem mfL_len (T : List Int) : (mfL T).length = T.length := mfK_len T _
theorem mfL_at {T : List Int} (h : 3 ≤ T.length) {j : Nat} (hj : j < T.length) : (mfL T).getD j 0 = if 1 ≤ j ∧ j + 1 < T.length then mdT T j else T.getD j 0 := by
  unfold mfL
  rw [mfK_at T (by omega) hj]
  by_cases a : 1 ≤ j ∧ j + 1 < T.length
  · rw [if_pos a, if_pos (by omega)]
  · rw [if_neg a, if_neg (by omega)]
theorem mf_trk {T : List Int} (h : Trk T) : Trk (mfL T) := by
  have h1 := h.lo
  have h2 := h.hi
  refine ⟨by rw [mfL_len]; exact h1, by rw [mfL_len]; exact h2, fun k hk => ?_⟩
  rw [mfL_len] at hk
  rw [mfL_at h1 hk]
  split
  · have a := h.one (k - 1) (by omega)
    have b := h.one k hk
    have c := h.one (k + 1) (by omega)
    unfold mdT mdI
    omega
  · exact h.one k hk
/-! ### Roughness -/
def szE (n : Int) : Int := max n (-n)
def rgS (T : List Int) : Nat → Int
  | 0 => 0
  | k + 1 => rgS T k + szE (T.getD (k + 1) 0 - T.getD k 0)
theorem rg_bd {T : List Int} (h : Trk T) : ∀ {k : Nat}, k < T.length → 0 ≤ rgS T k ∧ rgS T k ≤ 21000 * (k : Int)
  | 0, _ => by simp [rgS]
  | k + 1, hk => by
    have ih := rg_bd h (k := k) (by omega)
    have a := h.one k (by omega)
    have b := h.one (k + 1) hk
    rw [rgS]
    unfold szE
    omega
/-- A median filter never makes a track rougher. -/
theorem rg_mf {T : List Int} (h : 3 ≤ T.length) : ∀ {k : Nat}, k < T.length → rgS (mfL T) k ≤ rgS T k
  | 0, _ => by simp [rgS]
  | k + 1, hk => by
    have ih := rg_mf h (k := k) (by omega)
    rw [rgS, rgS, mfL_at h hk, mfL_at h (j := k) (by omega)]
    unfold mdT
    rw [show k + 1 - 1 = k by omega]
    unfold szE mdI
    split <;> split <;> omega
/-! ### Shoal filters -/
def wnI (T : List Int) (s : Int) (lo : Nat) : Nat → Int
  | 0 => s
  | n + 1 => min (wnI T s lo n) (T.getD (lo + n) 0)
theorem wnI_le (T : List Int) (s : Int) (lo : Nat) : ∀ n, wnI T s lo n ≤ s
  | 0 => Int.le_refl _
  | n + 1 => by
    have := wnI_le T s lo n
    rw [wnI]
    omega
def shI (T : List Int) (r i : Nat) : Int := wnI T (T.getD i 0) (i - r) (min (T.length - 1) (i + r) + 1 - (i - r))
def shL (T : List Int) (r : Nat) : Nat → List Int
  | 0 => []
  | k + 1 => shL T r k ++ [shI T r k]
theorem shL_len (T : List Int) (r : Nat) : ∀ k, (shL T r k).length = k
  | 0 => rfl
  | k + 1 => by rw [shL, List.length_append, shL_len T r k]; rfl
theorem shL_at (T : List Int) (r : Nat) : ∀ {n k : Nat}, k < n → (shL T r n).getD k 0 = shI T r k
  | 0, k, h => absurd h (by omega)
  | n + 1, k, h => by
    rw [shL, List.getD_eq_getElem?_getD]
    rcases Nat.lt_or_ge k n with a | a
    · rw [List.getElem?_append_left (by rw [shL_len]; exact a), ← List.getD_eq_getElem?_getD]
      exact shL_at T r a
    · obtain rfl : k = n := by omega
      rw [List.getElem?_append_right (by rw [shL_len]; exact Nat.le_refl _), shL_len, Nat.sub_self]
      rfl
/-- A shoal filter never makes a track deeper. -/
theorem sh_le (T : List Int) (r : Nat) {n k : Nat} (hk : k < n) : (shL T r n).getD k 0 ≤ T.getD k 0 := by
  rw [shL_at T r hk]
  exact wnI_le T _ _ _
/-! ### Smooth parts -/
structure SmT where
  at_ : Nat
  most : Nat
  fr : Nat
def smF (T : List Int) (l : Int) (s : SmT) (k : Nat) : Nat := if 0 < k ∧ l < szE (T.getD k 0 - T.getD (k - 1) 0) then k else s.fr
def smS (T : List Int) (l : Int) : Nat → SmT
  | 0 => ⟨0, 0, 0⟩
  | k + 1 => if (smS T l k).most < k - smF T l (smS T l k) k + 1 then ⟨smF T l (smS T l k) k, k - smF T l (smS T l k) k + 1, smF T l (smS T l k) k⟩ else ⟨(smS T l k).at_, (smS T l k).most, smF T l (smS T l k) k⟩
structure SmI (T : List Int) (l : Int) (k : Nat) (s : SmT) : Prop where
  fr : s.fr ≤ k
  sum : s.at_ + s.most ≤ k
  run : ∀ i, s.fr < i → i < k → szE (T.getD i 0 - T.getD (i - 1) 0) ≤ l
  best : ∀ i, s.at_ < i → i < s.at_ + s.most → szE (T.getD i 0 - T.getD (i - 1) 0) ≤ l
theorem smF_ok {T : List Int} {l : Int} {k : Nat} {s : SmT} (h : SmI T l k s) : smF T l s k ≤ k ∧ ∀ i, smF T l s k < i → i < k + 1 → szE (T.getD i 0 - T.getD (i - 1) 0) ≤ l := by
  unfold smF
  split
  · exact ⟨Nat.le_refl _, fun i h1 h2 => by omega⟩
  · rename_i hn
    refine ⟨h.fr, fun i h1 h2 => ?_⟩
    rcases Nat.lt_or_ge i k with a | a
    · exact h.run i h1 a
    · obtain rfl : i = k := by omega
      have : 0 < i := by omega
      refine Int.not_lt.1 fun hx => hn ⟨this, hx⟩
theorem smS_ok (T : List Int) (l : Int) : ∀ k, SmI T l k (smS T l k)
  | 0 => ⟨Nat.le_refl _, Nat.le_refl _, fun i h1 h2 => by omega, fun i h1 h2 => by simp [smS] at h2⟩
  | k + 1 => by
    have h := smS_ok T l k
    obtain ⟨f1, f2⟩ := smF_ok h
    have hs := h.sum
    rw [smS]
    split
    · exact ⟨by show smF T l (smS T l k) k ≤ k + 1; omega, by show smF T l (smS T l k) k + (k - smF T l (smS T l k) k + 1) ≤ k + 1; omega, f2, fun i h1 h2 => f2 i h1 (by simp only at h2; omega)⟩
    · exact ⟨by show smF T l (smS T l k) k ≤ k + 1; omega, by show (smS T l k).at_ + (smS T l k).most ≤ k + 1; omega, f2, h.best⟩
/-! ### Shoaler places -/
def wsL (T U : List Int) (k : Nat) : List Int := coL (fun k => decide (T.getD k 0 < U.getD k 0)) (fun k => (k : Int)) k
/-- No place is shoaler both ways. -/
theorem ws_apart {T U : List Int} {k n : Nat} {x : Int} (h : x ∈ wsL T U k) : ¬ x ∈ wsL U T n := by
  intro h2
  unfold wsL at h h2
  obtain ⟨i, _, hp, e⟩ := coL_mem.1 h
  obtain ⟨j, _, hq, e2⟩ := coL_mem.1 h2
  obtain rfl : i = j := by omega
  have := of_decide_eq_true hp
  have := of_decide_eq_true hq
  omega
/-! ### Flattened tracks -/
def quB (T : List Int) (l : Int) : Bool := decide ((upS T l).length + (dnS T l).length = 0)
def flR (l : Int) : Nat → List Int → List Int × Nat
  | 0, T => (T, 0)
  | f + 1, T => if quB T l = true then (T, 0) else ((flR l f (mfL T)).1, (flR l f (mfL T)).2 + 1)
theorem flR_le (l : Int) : ∀ (f : Nat) (T : List Int), (flR l f T).2 ≤ f
  | 0, T => Nat.le_refl _
  | f + 1, T => by
    have := flR_le l f (mfL T)
    rw [flR]
    split
    · exact Nat.zero_le _
    · show (flR l f (mfL T)).2 + 1 ≤ f + 1
      omega
theorem flR_trk (l : Int) : ∀ (f : Nat) {T : List Int}, Trk T → Trk (flR l f T).1
  | 0, T, h => h
  | f + 1, T, h => by
    rw [flR]
    split
    · exact h
    · exact flR_trk l f (mf_trk h)
theorem flR_len (l : Int) : ∀ (f : Nat) (T : List Int), (flR l f T).1.length = T.length
  | 0, T => rfl
  | f + 1, T => by
    rw [flR]
    split
    · rfl
    · exact (flR_len l f (mfL T)).trans (mfL_len T)
/-- A track that is flattened in fewer than the most filters has no spikes. -/
theorem flR_quiet (l : Int) : ∀ (f : Nat) (T : List Int), (flR l f T).2 < f → quB (flR l f T).1 l = true
  | 0, T, h => absurd h (by omega)
  | f + 1, T, h => by
    rw [flR] at h ⊢
    split
    · assumption
    · rename_i hn
      rw [if_neg hn] at h
      exact flR_quiet l f (mfL T) (by simp only at h; omega)
end Go.Proofs.Ytjekmmekkfmplaa
