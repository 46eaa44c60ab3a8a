/-
  Crossings in plain words: limits, differences, what is not tolerated, the smallest fixed number, offsets of lines, corrections. Conditions: stated at each theorem.
-/
import Derived.Test.YtllfmjnniagjfaaBase
namespace Go.Proofs.Ytllfmjnniagjfaa
set_option linter.unusedSimpArgs false
set_option linter.unusedVariables false

/-- A crossing. -/
structure XD where
  ln : Int
  cr : Int
  mn : Int
  ck : Int
instance : Inhabited XD := ⟨⟨0, 0, 0, 0⟩⟩
def xdAt (L : List XD) (k : Nat) : XD := L.getD k default
theorem xdAt_at {L : List XD} {k : Nat} {v : XD} (h : L[k]? = some v) : xdAt L k = v := by unfold xdAt; rw [List.getD_eq_getElem?_getD, h]; rfl
theorem xdAt_get {L : List XD} {k : Nat} (h : k < L.length) : L[k]? = some (xdAt L k) := by
  rw [List.getElem?_eq_getElem h, xdAt_at (List.getElem?_eq_getElem h)]
def xdB (v : XD) : Bool := inB v.ln 1 99 && inB v.cr 1 99 && inB v.mn (-1000) 20000 && inB v.ck (-1000) 20000
/-- Two crossings of one pair of a line and a cross. -/
def xsB (u v : XD) : Bool := decide (u.ln = v.ln) && decide (u.cr = v.cr)
/-- None of the first j has the pair of v. -/
def xfK (L : List XD) (v : XD) : Nat → Bool
  | 0 => true
  | j + 1 => xfK L v j && !xsB (xdAt L j) v
def xstepB (L : List XD) (k : Nat) : Bool := xdB (xdAt L k) && xfK L (xdAt L k) k
def xgoodK (L : List XD) (k : Nat) : Bool := (List.range k).all (xstepB L)
def xdsB (L : List XD) : Bool := decide (L.length ≤ 10) && xgoodK L L.length
theorem xgoodK_succ (L : List XD) (k : Nat) : xgoodK L (k + 1) = (xgoodK L k && xstepB L k) := by
  unfold xgoodK
  rw [List.range_succ, List.all_append]
  simp
theorem xgoodK_bad {L : List XD} {k n : Nat} (h : k < n) (hb : xstepB L k = false) : xgoodK L n = false := by
  rcases hx : xgoodK L n with _ | _
  · rfl
  · have := List.all_eq_true.1 hx k (by simpa using h)
    rw [this] at hb; cases hb
theorem xdB_parts {v : XD} (h : xdB v = true) : (1 ≤ v.ln ∧ v.ln ≤ 99) ∧ (1 ≤ v.cr ∧ v.cr ≤ 99) ∧ (-1000 ≤ v.mn ∧ v.mn ≤ 20000) ∧ (-1000 ≤ v.ck ∧ v.ck ≤ 20000) := by
  unfold xdB inB at h
  simp only [Bool.and_eq_true, decide_eq_true_eq] at h
  exact ⟨h.1.1.1, h.1.1.2, h.1.2, h.2⟩
theorem xfK_yes {L : List XD} {v : XD} : ∀ {k : Nat}, xfK L v k = true ↔ ∀ j, j < k → xsB (xdAt L j) v = false
  | 0 => by simp [xfK]
  | k + 1 => by
    rw [xfK, Bool.and_eq_true, xfK_yes (k := k)]
    constructor
    · rintro ⟨h1, h2⟩ j hj
      rcases Nat.lt_or_ge j k with a | a
      · exact h1 j a
      · obtain rfl : j = k := by omega
        simpa using h2
    · intro h
      exact ⟨fun j hj => h j (by omega), by simpa using h k (by omega)⟩
structure Good10 (L : List XD) : Prop where
  max : L.length ≤ 10
  one : ∀ k, k < L.length → xdB (xdAt L k) = true
  new : ∀ k, k < L.length → ∀ j, j < k → xsB (xdAt L j) (xdAt L k) = false
theorem good10_of {L : List XD} (h : xdsB L = true) : Good10 L := by
  unfold xdsB xgoodK at h
  rw [Bool.and_eq_true, List.all_eq_true] at h
  have key : ∀ k, k < L.length → xdB (xdAt L k) = true ∧ xfK L (xdAt L k) k = true := fun k hk => by
    have h2 := h.2 k (by simpa using hk)
    unfold xstepB at h2
    rwa [Bool.and_eq_true] at h2
  exact ⟨of_decide_eq_true h.1, fun k hk => (key k hk).1, fun k hk => xfK_yes.1 (key k hk).2⟩
theorem good10_mk {L : List XD} (h : Good10 L) : xdsB L = true := by
  unfold xdsB xgoodK
  rw [Bool.and_eq_true, List.all_eq_true]
  refine ⟨decide_eq_true h.max, fun k hk => ?_⟩
  have hk' : k < L.length := by simpa using hk
  unfold xstepB
  rw [Bool.and_eq_true]
  exact ⟨h.one k hk', xfK_yes.2 (h.new k hk')⟩
theorem Good10.mem {L : List XD} (h : Good10 L) {v : XD} (hv : v ∈ L) : xdB v = true := by
  obtain ⟨k, hk, rfl⟩ := List.getElem_of_mem hv
  have := h.one k hk
  rwa [xdAt_at (List.getElem?_eq_getElem hk)] at this
/-! ### Differences -/
def dfI (v : XD) : Int := v.ck - v.mn
def szI (n : Int) : Int := max n (-n)
theorem szI_nonneg (n : Int) : 0 ≤ szI n := by unfold szI; omega
theorem dfI_bd {v : XD} (h : xdB v = true) : -21000 ≤ dfI v ∧ dfI v ≤ 21000 ∧ szI (dfI v) ≤ 21000 := by
  obtain ⟨_, _, h1, h2⟩ := xdB_parts h
  unfold dfI szI
  omega
/-- The sum of the first k differences. -/
def dsK (L : List XD) : Nat → Int
  | 0 => 0
  | k + 1 => dsK L k + dfI (xdAt L k)
theorem dsK_bd {L : List XD} (h : Good10 L) : ∀ k, k ≤ L.length → -21000 * (k : Int) ≤ dsK L k ∧ dsK L k ≤ 21000 * k
  | 0, _ => by simp [dsK]
  | k + 1, hk => by
    have h1 := dsK_bd h k (by omega)
    have h2 := dfI_bd (h.one k (by omega))
    rw [dsK]
    omega
/-- The index of the greatest of the first k + 1 differences. -/
def gdK (L : List XD) : Nat → Nat
  | 0 => 0
  | k + 1 => if szI (dfI (xdAt L (gdK L k))) < szI (dfI (xdAt L (k + 1))) then k + 1 else gdK L k
theorem gdK_le (L : List XD) : ∀ k, gdK L k ≤ k
  | 0 => Nat.le_refl _
  | k + 1 => by
    have := gdK_le L k
    rw [gdK]
    split <;> omega
theorem gdK_most (L : List XD) : ∀ k j, j ≤ k → szI (dfI (xdAt L j)) ≤ szI (dfI (xdAt L (gdK L k)))
  | 0, j, h => by
    obtain rfl : j = 0 := by omega
    exact Int.le_refl _
  | k + 1, j, h => by
    rw [gdK]
    split
    · rename_i hlt
      rcases Nat.lt_or_ge j (k + 1) with a | a
      · have := gdK_most L k j (by omega)
        omega
      · obtain rfl : j = k + 1 := by omega
        exact Int.le_refl _
    · rename_i hlt
      rcases Nat.lt_or_ge j (k + 1) with a | a
      · exact gdK_most L k j (by omega)
      · obtain rfl : j = k + 1 := by omega
        omega
/-! ### Tolerance -/
/-- By how many hundredths of a centimeter the difference is beyond p percent. -/
def obI (v : XD) (p : Int) : Int := 100 * szI (dfI v) - p * max 0 v.mn
theorem obI_bd {v : XD} {p : Int} (h : xdB v = true) (hp : 0 ≤ p ∧ p ≤ 100) : -2000000 ≤ obI v p ∧ obI v p ≤ 2100000 := by
  obtain ⟨_, _, h1, _⟩ := xdB_parts h
  have h2 := dfI_bd h
  have h3 := szI_nonneg (dfI v)
  have h4 : 0 ≤ p * max 0 v.mn := Int.mul_nonneg hp.1 (by omega)
  have h5 : p * max 0 v.mn ≤ 100 * 20000 := Int.le_trans (Int.mul_le_mul_of_nonneg_right hp.2 (by omega)) (Int.mul_le_mul_of_nonneg_left (by omega) (by omega))
  unfold obI
  omega
def ntB (L : List XD) (f p : Int) (k : Nat) : Bool := decide (100 * f < obI (xdAt L k) p)
/-- The indices of those of the first k that are not tolerated. -/
def ntK (L : List XD) (f p : Int) (k : Nat) : List Nat := (List.range k).filter (ntB L f p)
theorem ntK_succ (L : List XD) (f p : Int) (k : Nat) : ntK L f p (k + 1) = ntK L f p k ++ (if ntB L f p k then [k] else []) := by
  unfold ntK
  rw [List.range_succ, List.filter_append]
  rcases h : ntB L f p k with _ | _ <;> simp [h]
theorem ntK_len (L : List XD) (f p : Int) (k : Nat) : (ntK L f p k).length ≤ k := by
  unfold ntK
  exact Nat.le_trans (List.length_filter_le _ _) (by simp)
/-- With a greater fixed number no more are not tolerated. -/
theorem ntK_mono {L : List XD} {f g p : Int} (h : f ≤ g) {k i : Nat} (hi : i ∈ ntK L g p k) : i ∈ ntK L f p k := by
  unfold ntK at hi ⊢
  rw [List.mem_filter] at hi ⊢
  refine ⟨hi.1, ?_⟩
  unfold ntB at hi ⊢
  have := of_decide_eq_true hi.2
  exact decide_eq_true (by omega)
/-! ### The smallest fixed number -/
def upI (v : XD) (p : Int) : Int := (max 0 (obI v p) + 99) / 100
def smF (L : List XD) (p : Int) : Nat → Int
  | 0 => 0
  | k + 1 => max (smF L p k) (upI (xdAt L k) p)
theorem smF_nonneg (L : List XD) (p : Int) : ∀ k, 0 ≤ smF L p k
  | 0 => Int.le_refl _
  | k + 1 => by
    have := smF_nonneg L p k
    rw [smF]
    omega
theorem smF_all (L : List XD) (p : Int) : ∀ k j, j < k → obI (xdAt L j) p ≤ 100 * smF L p k
  | 0, j, h => by omega
  | k + 1, j, h => by
    rw [smF]
    rcases Nat.lt_or_ge j k with a | a
    · have := smF_all L p k j a
      omega
    · obtain rfl : j = k := by omega
      have : obI (xdAt L j) p ≤ 100 * upI (xdAt L j) p := by unfold upI; omega
      omega
theorem smF_some (L : List XD) (p : Int) : ∀ k, 0 < smF L p k → ∃ j, j < k ∧ 100 * (smF L p k - 1) < obI (xdAt L j) p
  | 0, h => by simp [smF] at h
  | k + 1, h => by
    rw [smF] at h ⊢
    by_cases hc : smF L p k < upI (xdAt L k) p
    · refine ⟨k, by omega, ?_⟩
      rw [show max (smF L p k) (upI (xdAt L k) p) = upI (xdAt L k) p by omega] at h ⊢
      unfold upI at h ⊢
      omega
    · rw [show max (smF L p k) (upI (xdAt L k) p) = smF L p k by omega] at h ⊢
      obtain ⟨j, hj, h2⟩ := smF_some L p k h
      exact ⟨j, by omega, h2⟩
/-- With the smallest fixed number all are tolerated. -/
theorem sm_none (L : List XD) (p : Int) (k : Nat) : ntK L (smF L p k) p k = [] := by
  unfold ntK
  rw [List.filter_eq_nil_iff]
  intro j hj
  have := smF_all L p k j (by simpa using hj)
  unfold ntB
  rw [decide_eq_false (by omega)]
  exact Bool.false_ne_true
/-- With one that is smaller by one some are not. -/
theorem sm_more {L : List XD} {p : Int} {k : Nat} (h : 0 < smF L p k) : ntK L (smF L p k - 1) p k ≠ [] := by
  obtain ⟨j, hj, h2⟩ := smF_some L p k h
  refine List.ne_nil_of_mem (a := j) ?_
  unfold ntK
  rw [List.mem_filter]
  exact ⟨by simpa using hj, by unfold ntB; exact decide_eq_true h2⟩
/-! ### Offsets -/
def loS (L : List XD) (l : Int) : Nat → Int
  | 0 => 0
  | k + 1 => if (xdAt L k).ln = l then loS L l k + dfI (xdAt L k) else loS L l k
def loN (L : List XD) (l : Int) : Nat → Nat
  | 0 => 0
  | k + 1 => if (xdAt L k).ln = l then loN L l k + 1 else loN L l k
theorem loN_le (L : List XD) (l : Int) : ∀ k, loN L l k ≤ k
  | 0 => Nat.le_refl _
  | k + 1 => by
    have := loN_le L l k
    rw [loN]
    split <;> omega
theorem loS_bd {L : List XD} (h : Good10 L) (l : Int) : ∀ k, k ≤ L.length → -21000 * (loN L l k : Int) ≤ loS L l k ∧ loS L l k ≤ 21000 * loN L l k
  | 0, _ => by simp [loS, loN]
  | k + 1, hk => by
    have h1 := loS_bd h l k (by omega)
    have h2 := dfI_bd (h.one k (by omega))
    rw [loS, loN]
    split <;> omega
theorem loN_pos {L : List XD} {l : Int} : ∀ {k j : Nat}, j < k → (xdAt L j).ln = l → 0 < loN L l k
  | 0, j, h, _ => by omega
  | k + 1, j, h, e => by
    rw [loN]
    split
    · omega
    · rename_i hne
      rcases Nat.lt_or_ge j k with a | a
      · exact loN_pos a e
      · obtain rfl : j = k := by omega
        exact absurd e hne
/-! ### Corrections -/
def crV (l by_ : Int) (v : XD) : XD := if v.ln = l then ⟨v.ln, v.cr, v.mn + by_, v.ck⟩ else v
def crL (L : List XD) (l by_ : Int) : List XD := L.map (crV l by_)
theorem crL_len (L : List XD) (l b : Int) : (crL L l b).length = L.length := List.length_map _
theorem crL_at {L : List XD} {l b : Int} {k : Nat} (h : k < L.length) : xdAt (crL L l b) k = crV l b (xdAt L k) := by
  refine xdAt_at ?_
  unfold crL
  rw [List.getElem?_map, xdAt_get h]
  rfl
theorem crV_ln (l b : Int) (v : XD) : (crV l b v).ln = v.ln := by unfold crV; split <;> rfl
theorem crV_cr (l b : Int) (v : XD) : (crV l b v).cr = v.cr := by unfold crV; split <;> rfl
theorem crL_off {L : List XD} {l b : Int} : ∀ {k : Nat}, k ≤ L.length → loN (crL L l b) l k = loN L l k ∧ loS (crL L l b) l k = loS L l k - b * loN L l k
  | 0, _ => by simp [loN, loS]
  | k + 1, hk => by
    obtain ⟨h1, h2⟩ := crL_off (L := L) (l := l) (b := b) (k := k) (by omega)
    rw [loN, loN, loS, loS, crL_at (by omega), crV_ln, h1, h2]
    by_cases e : (xdAt L k).ln = l
    · have hd : dfI (crV l b (xdAt L k)) = dfI (xdAt L k) - b := by
        unfold crV dfI
        rw [if_pos e]
        dsimp only
        omega
      rw [if_pos e, if_pos e, if_pos e, hd, Int.natCast_add, Int.mul_add]
      refine ⟨rfl, ?_⟩
      omega
    · rw [if_neg e, if_neg e, if_neg e]
      exact ⟨rfl, rfl⟩
/-- A line that is corrected by its whole offset has none. -/
theorem crL_none {L : List XD} {l b : Int} (h : loS L l L.length = b * loN L l L.length) : loS (crL L l b) l (crL L l b).length = 0 := by
  rw [crL_len, (crL_off (Nat.le_refl _)).2, h, Int.sub_self]
/-! ### The worst line: of the lines 1 to k, the first whose offset is greatest without sign. -/
/-- Line, size of its sum, its number. -/
def woK (L : List XD) : Nat → Int × Int × Int
  | 0 => (0, 0, 1)
  | k + 1 =>
    let r := woK L k
    let l : Int := (k : Int) + 1
    if 0 < loN L l L.length ∧ (r.1 = 0 ∨ r.2.1 * loN L l L.length < szI (loS L l L.length) * r.2.2) then (l, szI (loS L l L.length), (loN L l L.length : Int)) else r
theorem woK_is (L : List XD) : ∀ k, ((woK L k).1 = 0 ∧ (∀ j : Nat, 1 ≤ j → j ≤ k → loN L j L.length = 0)) ∨ ((1 ≤ (woK L k).1 ∧ (woK L k).1 ≤ k) ∧ 0 < loN L (woK L k).1 L.length ∧ (woK L k).2.1 = szI (loS L (woK L k).1 L.length) ∧ (woK L k).2.2 = (loN L (woK L k).1 L.length : Int) ∧ ∀ j : Nat, 1 ≤ j → j ≤ k → 0 < loN L j L.length → szI (loS L j L.length) * (woK L k).2.2 ≤ (woK L k).2.1 * loN L j L.length)
  | 0 => .inl ⟨rfl, fun j h1 h2 => by omega⟩
  | k + 1 => by
    have ih := woK_is L k
    obtain ⟨r, hr⟩ : ∃ r, woK L k = r := ⟨_, rfl⟩
    rw [hr] at ih
    obtain ⟨l, hl⟩ : ∃ l : Int, (k : Int) + 1 = l := ⟨_, rfl⟩
    have hcast : ((k + 1 : Nat) : Int) = l := by omega
    have last : ∀ j : Nat, 1 ≤ j → j ≤ k + 1 → j ≤ k ∨ (j : Int) = l := fun j _ h => by omega
    have hstep : woK L (k + 1) = if 0 < loN L l L.length ∧ (r.1 = 0 ∨ r.2.1 * loN L l L.length < szI (loS L l L.length) * r.2.2) then (l, szI (loS L l L.length), (loN L l L.length : Int)) else r := by
      rw [woK, hr, hl]
    rw [hstep]
    obtain ⟨n, hn⟩ : ∃ n, loN L l L.length = n := ⟨_, rfl⟩
    obtain ⟨s, hs⟩ : ∃ s, szI (loS L l L.length) = s := ⟨_, rfl⟩
    rw [hn, hs]
    by_cases hc : 0 < n ∧ (r.1 = 0 ∨ r.2.1 * n < s * r.2.2)
    · rw [if_pos hc]
      refine .inr ⟨⟨by show 1 ≤ l; omega, by show l ≤ _; omega⟩, by show 0 < loN L l L.length; rw [hn]; exact hc.1, hs.symm, by show (n : Int) = _; rw [hn], fun j hj1 hj2 hjn => ?_⟩
      show szI (loS L j L.length) * (n : Int) ≤ s * loN L j L.length
      rcases last j hj1 hj2 with hjk | hjl
      · rcases ih with ⟨_, h0⟩ | ⟨_, hp, h1, h2, h3⟩
        · have := h0 j hj1 hjk
          omega
        · rcases hc.2 with h0 | h0
          · omega
          · have h4 := h3 j hj1 hjk hjn
            have hq : 0 < r.2.2 := by rw [h2]; omega
            obtain ⟨x, hx⟩ : ∃ x, szI (loS L j L.length) = x := ⟨_, rfl⟩
            obtain ⟨m, hm⟩ : ∃ m, loN L j L.length = m := ⟨_, rfl⟩
            rw [hx, hm] at h4
            rw [hx, hm]
            obtain ⟨a, ha⟩ : ∃ a, r.2.1 = a := ⟨_, rfl⟩
            obtain ⟨b, hb⟩ : ∃ b, r.2.2 = b := ⟨_, rfl⟩
            rw [ha, hb] at h0 h4
            rw [hb] at hq
            -- x * b <= a * m, a * n < s * b, 0 < b : x * n <= s * m
            have t1 : x * b * n ≤ a * m * n := Int.mul_le_mul_of_nonneg_right h4 (by omega)
            have t2 : a * n * m ≤ s * b * m := Int.mul_le_mul_of_nonneg_right (Int.le_of_lt h0) (by omega)
            refine Int.le_of_mul_le_mul_right (a := b) ?_ hq
            have e1 : x * n * b = x * b * n := by rw [Int.mul_assoc, Int.mul_comm (n : Int) b, ← Int.mul_assoc]
            have e2 : s * m * b = s * b * m := by rw [Int.mul_assoc, Int.mul_comm (m : Int) b, ← Int.mul_assoc]
            have e3 : a * m * n = a * n * m := by rw [Int.mul_assoc, Int.mul_comm (m : Int) n, ← Int.mul_assoc]
            rw [e1, e2]
            exact Int.le_trans t1 (by rw [e3]; exact t2)
      · rw [hjl, hn, hs]
        exact Int.le_refl _
    · rw [if_neg hc]
      rcases ih with ⟨h0, h1⟩ | ⟨⟨a1, a2⟩, hp, h1, h2, h3⟩
      · refine .inl ⟨h0, fun j hj1 hj2 => ?_⟩
        rcases last j hj1 hj2 with hjk | hjl
        · exact h1 j hj1 hjk
        · rw [hjl, hn]
          rcases Nat.eq_zero_or_pos n with a | a
          · exact a
          · exact absurd ⟨a, .inl h0⟩ hc
      · refine .inr ⟨⟨a1, by omega⟩, hp, h1, h2, fun j hj1 hj2 hjn => ?_⟩
        rcases last j hj1 hj2 with hjk | hjl
        · exact h3 j hj1 hjk hjn
        · rw [hjl, hn] at hjn
          rw [hjl, hn, hs]
          rcases Int.lt_or_le (r.2.1 * n) (s * r.2.2) with a | a
          · exact absurd ⟨hjn, .inr a⟩ hc
          · exact a
end Go.Proofs.Ytllfmjnniagjfaa
