/-
  Crossings in plain words, on: the crossings of a line, means, lines in ascending order, the worst line. Conditions: stated at each theorem.
-/
import Derived.Test.YtllfmjnniagjfaaKp
namespace Go.Proofs.Ytllfmjnniagjfaa
set_option linter.unusedSimpArgs false
set_option linter.unusedVariables false

/-! ### The crossings of a line -/
def crF (L : List XD) (l : Int) : List XD := L.filter fun v => decide (v.ln = l)
theorem take_snocX {L : List XD} {k : Nat} (hk : k < L.length) : L.take (k + 1) = L.take k ++ [xdAt L k] := by
  rw [List.take_succ_eq_append_getElem hk, xdAt_at (List.getElem?_eq_getElem hk)]
theorem crF_hit {L : List XD} {l : Int} {k : Nat} (hk : k < L.length) (h : (xdAt L k).ln = l) : crF (L.take (k + 1)) l = crF (L.take k) l ++ [xdAt L k] := by
  unfold crF
  rw [take_snocX hk, List.filter_append]
  simp [h]
theorem crF_miss {L : List XD} {l : Int} {k : Nat} (hk : k < L.length) (h : ¬ (xdAt L k).ln = l) : crF (L.take (k + 1)) l = crF (L.take k) l := by
  unfold crF
  rw [take_snocX hk, List.filter_append]
  simp [h]
theorem crF_len (L : List XD) (l : Int) (k : Nat) : (crF (L.take k) l).length ≤ k := by
  unfold crF
  exact Nat.le_trans (List.length_filter_le _ _) (by simp; omega)
def sumX (M : List XD) : Int := (M.map dfI).sum
theorem sumX_snoc (M : List XD) (v : XD) : sumX (M ++ [v]) = sumX M + dfI v := by simp [sumX]
theorem dsK_sum {M : List XD} : ∀ {k : Nat}, k ≤ M.length → dsK M k = sumX (M.take k)
  | 0, _ => by simp [dsK, sumX]
  | k + 1, hk => by rw [dsK, dsK_sum (k := k) (by omega), take_snocX (by omega), sumX_snoc]
theorem lo_crF {L : List XD} {l : Int} : ∀ {k : Nat}, k ≤ L.length → loS L l k = sumX (crF (L.take k) l) ∧ loN L l k = (crF (L.take k) l).length
  | 0, _ => by simp [loS, loN, sumX, crF]
  | k + 1, hk => by
    obtain ⟨h1, h2⟩ := lo_crF (L := L) (l := l) (k := k) (by omega)
    rw [loS, loN]
    by_cases h : (xdAt L k).ln = l
    · rw [if_pos h, if_pos h, crF_hit (by omega) h, sumX_snoc, h1, h2]
      simp
    · rw [if_neg h, if_neg h, crF_miss (by omega) h, h1, h2]
      exact ⟨rfl, rfl⟩
theorem lo_all (L : List XD) (l : Int) : loS L l L.length = dsK (crF L l) (crF L l).length ∧ loN L l L.length = (crF L l).length := by
  have h := lo_crF (L := L) (l := l) (Nat.le_refl _)
  rw [List.take_length] at h
  rw [dsK_sum (Nat.le_refl _), List.take_length]
  exact h
structure SmX (M : List XD) : Prop where
  max : M.length ≤ 10
  one : ∀ k, k < M.length → xdB (xdAt M k) = true
theorem smX_good {L : List XD} (h : Good10 L) : SmX L := ⟨h.max, h.one⟩
theorem smX_line {L : List XD} (h : Good10 L) (l : Int) : SmX (crF L l) := by
  refine ⟨Nat.le_trans (List.length_filter_le _ _) h.max, fun k hk => ?_⟩
  have hm : xdAt (crF L l) k ∈ crF L l := by rw [xdAt_at (List.getElem?_eq_getElem hk)]; exact List.getElem_mem hk
  exact h.mem (List.mem_filter.1 hm).1
theorem dsK_bdS {M : List XD} (h : SmX M) : ∀ k, k ≤ M.length → -21000 * (k : Int) ≤ dsK M k ∧ dsK M k ≤ 21000 * k
  | 0, _ => by simp [dsK]
  | k + 1, hk => by
    have h1 := dsK_bdS h k (by omega)
    have h2 := dfI_bd (h.one k (by omega))
    rw [dsK]
    omega
/-! ### Means in lowest terms -/
def gdX (n : Int) (d : Nat) : Nat := Nat.gcd n.natAbs d
def mfN (M : List XD) : Int := (dsK M M.length).tdiv (gdX (dsK M M.length) M.length : Nat)
def mfD (M : List XD) : Int := (M.length : Int) / (gdX (dsK M M.length) M.length : Nat)
theorem mf_is {M : List XD} (h : 0 < M.length) : ∃ g : Nat, 0 < g ∧ dsK M M.length = mfN M * g ∧ (M.length : Int) = mfD M * g ∧ g = gdX (dsK M M.length) M.length := by
  refine ⟨gdX (dsK M M.length) M.length, Nat.gcd_pos_of_pos_right _ h, ?_, ?_, rfl⟩
  · unfold mfN
    refine (Int.tdiv_mul_cancel ?_).symm
    have h1 : gdX (dsK M M.length) M.length ∣ (dsK M M.length).natAbs := Nat.gcd_dvd_left _ _
    have h2 : ((gdX (dsK M M.length) M.length : Nat) : Int) ∣ ((dsK M M.length).natAbs : Int) := Int.natCast_dvd_natCast.2 h1
    exact Int.dvd_natAbs.1 h2
  · unfold mfD
    exact (Int.ediv_mul_cancel (Int.natCast_dvd_natCast.2 (Nat.gcd_dvd_right _ _))).symm
theorem mf_bd {M : List XD} (hs : SmX M) (h : 0 < M.length) : (-210000 ≤ mfN M ∧ mfN M ≤ 210000) ∧ 1 ≤ mfD M ∧ mfD M ≤ 10 := by
  obtain ⟨g, hg, h1, h2, _⟩ := mf_is h
  have h3 := dsK_bdS hs M.length (Nat.le_refl _)
  have h4 := hs.max
  have hgz : (1 : Int) ≤ g := by omega
  have hd1 : 1 ≤ mfD M := by
    rcases Int.lt_or_le (mfD M) 1 with a | a
    · have : mfD M * g ≤ 0 := Int.mul_nonpos_of_nonpos_of_nonneg (by omega) (by omega)
      omega
    · exact a
  have hd2 : mfD M ≤ mfD M * g := by
    have := Int.mul_le_mul_of_nonneg_left hgz (show 0 ≤ mfD M by omega)
    omega
  refine ⟨?_, hd1, by omega⟩
  rcases Int.le_total 0 (mfN M) with a | a
  · have := Int.mul_le_mul_of_nonneg_left hgz a
    omega
  · have := Int.mul_le_mul_of_nonneg_left hgz (show 0 ≤ -mfN M by omega)
    have e : -mfN M * (g : Int) = -(mfN M * g) := Int.neg_mul _ _
    omega
theorem szI_mul (n : Int) (g : Nat) : szI (n * g) = szI n * g := by
  unfold szI
  rcases Int.le_total 0 n with a | a
  · have h : 0 ≤ n * (g : Int) := Int.mul_nonneg a (by omega)
    rw [show max n (-n) = n by omega]
    omega
  · have h : n * (g : Int) ≤ 0 := Int.mul_nonpos_of_nonpos_of_nonneg a (by omega)
    rw [show max n (-n) = -n by omega, Int.neg_mul]
    omega
/-- Means of two rows compared: in lowest terms as they are. -/
theorem mf_lt {M N : List XD} (hM : 0 < M.length) (hN : 0 < N.length) : szI (mfN M) * mfD N < szI (mfN N) * mfD M ↔ szI (dsK M M.length) * N.length < szI (dsK N N.length) * M.length := by
  obtain ⟨g, hg, h1, h2, _⟩ := mf_is hM
  obtain ⟨k, hk, h3, h4, _⟩ := mf_is hN
  rw [h1, h3, szI_mul, szI_mul, h2, h4]
  have hp : (0 : Int) < (g : Int) * (k : Int) := Int.mul_pos (by omega) (by omega)
  have e1 : szI (mfN M) * (g : Int) * (mfD N * (k : Int)) = szI (mfN M) * mfD N * ((g : Int) * k) := by
    rw [Int.mul_assoc, Int.mul_assoc, Int.mul_left_comm (g : Int)]
  have e2 : szI (mfN N) * (k : Int) * (mfD M * (g : Int)) = szI (mfN N) * mfD M * ((g : Int) * k) := by
    rw [Int.mul_assoc, Int.mul_assoc, Int.mul_left_comm (k : Int), Int.mul_comm (k : Int) g]
  rw [e1, e2]
  exact (Int.mul_lt_mul_right hp).symm
theorem mf_none {M : List XD} (h : 0 < M.length) (h0 : dsK M M.length = 0) : mfN M = 0 ∧ mfD M = 1 := by
  unfold mfN mfD gdX
  rw [h0]
  refine ⟨by simp, ?_⟩
  simp only [Int.natAbs_zero, Nat.gcd_zero_left]
  exact Int.ediv_self (by omega)
/-! ### Lines in ascending order -/
def insL : List Int → Int → List Int
  | [], x => [x]
  | y :: r, x => if y = x then y :: r else if x < y then x :: y :: r else y :: insL r x
def crL9 (L : List XD) : Nat → List Int
  | 0 => []
  | k + 1 => insL (crL9 L k) (xdAt L k).ln
theorem insL_hit : ∀ {ls : List Int} {x : Int} {i : Nat}, (∀ p y, ls[p]? = some y → p < i → y < x) → ls[i]? = some x → insL ls x = ls
  | [], x, i, _, h => by simp at h
  | y :: r, x, 0, _, h => by
    obtain rfl : y = x := by simpa using h
    simp [insL]
  | y :: r, x, i + 1, h1, h => by
    have hy := h1 0 y rfl (by omega)
    rw [insL, if_neg (by omega), if_neg (by omega), insL_hit (ls := r) (i := i) (fun p z hz hp => h1 (p + 1) z (by simpa using hz) (by omega)) (by simpa using h)]
theorem insL_mid : ∀ {ls : List Int} {x z : Int} {i : Nat}, (∀ p y, ls[p]? = some y → p < i → y < x) → ls[i]? = some z → x < z → insL ls x = ls.take i ++ x :: ls.drop i
  | [], x, z, i, _, h, _ => by simp at h
  | y :: r, x, z, 0, _, h, hz => by
    obtain rfl : y = z := by simpa using h
    rw [insL, if_neg (by omega), if_pos hz]
    rfl
  | y :: r, x, z, i + 1, h1, h, hz => by
    have hy := h1 0 y rfl (by omega)
    rw [insL, if_neg (by omega), if_neg (by omega), insL_mid (ls := r) (i := i) (fun p z hz hp => h1 (p + 1) z (by simpa using hz) (by omega)) (by simpa using h) hz]
    rfl
theorem insL_end : ∀ {ls : List Int} {x : Int}, (∀ y, y ∈ ls → y < x) → insL ls x = ls ++ [x]
  | [], x, _ => rfl
  | y :: r, x, h => by
    have hy := h y (by simp)
    rw [insL, if_neg (by omega), if_neg (by omega), insL_end (ls := r) (fun z hz => h z (by simp [hz]))]
    rfl
theorem insL_mem : ∀ {ls : List Int} {x y : Int}, y ∈ insL ls x ↔ y ∈ ls ∨ y = x
  | [], x, y => by simp [insL]
  | z :: r, x, y => by
    rw [insL]
    by_cases h : z = x
    · rw [if_pos h]
      subst h
      simp only [List.mem_cons]
      constructor
      · exact fun a => .inl a
      · rintro (a | a)
        · exact a
        · exact .inl a
    · rw [if_neg h]
      by_cases h2 : x < z
      · rw [if_pos h2]
        simp only [List.mem_cons]
        constructor
        · rintro (a | a | a)
          · exact .inr a
          · exact .inl (.inl a)
          · exact .inl (.inr a)
        · rintro ((a | a) | a)
          · exact .inr (.inl a)
          · exact .inr (.inr a)
          · exact .inl a
      · rw [if_neg h2, List.mem_cons, insL_mem (ls := r), List.mem_cons]
        constructor
        · rintro (a | a | a)
          · exact .inl (.inl a)
          · exact .inl (.inr a)
          · exact .inr a
        · rintro ((a | a) | a)
          · exact .inl a
          · exact .inr (.inl a)
          · exact .inr (.inr a)
theorem insL_sorted : ∀ {ls : List Int} {x : Int}, ls.Pairwise (· < ·) → (insL ls x).Pairwise (· < ·)
  | [], x, _ => by simp [insL]
  | z :: r, x, h => by
    rw [List.pairwise_cons] at h
    rw [insL]
    by_cases h1 : z = x
    · rw [if_pos h1]
      exact List.pairwise_cons.2 h
    · rw [if_neg h1]
      by_cases h2 : x < z
      · rw [if_pos h2, List.pairwise_cons]
        refine ⟨fun a ha => ?_, List.pairwise_cons.2 h⟩
        rcases List.mem_cons.1 ha with rfl | ha
        · exact h2
        · have := h.1 a ha
          omega
      · rw [if_neg h2, List.pairwise_cons]
        refine ⟨fun a ha => ?_, insL_sorted h.2⟩
        rcases insL_mem.1 ha with ha | rfl
        · exact h.1 a ha
        · omega
theorem insL_len : ∀ (ls : List Int) (x : Int), (insL ls x).length ≤ ls.length + 1
  | [], x => by simp [insL]
  | z :: r, x => by
    rw [insL]
    have := insL_len r x
    split
    · simp
    · split <;> simp <;> omega
theorem crL9_len (L : List XD) : ∀ k, (crL9 L k).length ≤ k
  | 0 => by simp [crL9]
  | k + 1 => by
    have h1 := crL9_len L k
    have h2 := insL_len (crL9 L k) (xdAt L k).ln
    rw [crL9]
    omega
theorem crL9_sorted (L : List XD) : ∀ k, (crL9 L k).Pairwise (· < ·)
  | 0 => by simp [crL9]
  | k + 1 => by rw [crL9]; exact insL_sorted (crL9_sorted L k)
theorem crL9_mem {L : List XD} {y : Int} : ∀ {k : Nat}, y ∈ crL9 L k ↔ ∃ j, j < k ∧ (xdAt L j).ln = y
  | 0 => by simp [crL9]
  | k + 1 => by
    rw [crL9, insL_mem, crL9_mem (k := k)]
    constructor
    · rintro (⟨j, hj, h⟩ | h)
      · exact ⟨j, by omega, h⟩
      · exact ⟨k, by omega, h.symm⟩
    · rintro ⟨j, hj, h⟩
      rcases Nat.lt_or_ge j k with a | a
      · exact .inl ⟨j, a, h⟩
      · obtain rfl : j = k := by omega
        exact .inr h.symm
theorem loN_some {L : List XD} {l : Int} : ∀ {k : Nat}, 0 < loN L l k → ∃ j, j < k ∧ (xdAt L j).ln = l
  | 0, h => by simp [loN] at h
  | k + 1, h => by
    rw [loN] at h
    split at h
    · rename_i e
      exact ⟨k, by omega, e⟩
    · obtain ⟨j, hj, e⟩ := loN_some h
      exact ⟨j, by omega, e⟩
/-- The lines that occur: those in the row. -/
theorem crL9_iff {L : List XD} {y : Int} : y ∈ crL9 L L.length ↔ 0 < loN L y L.length := by
  rw [crL9_mem]
  constructor
  · rintro ⟨j, hj, h⟩
    exact loN_pos hj h
  · exact loN_some
/-! ### The worst line -/
/-- W occurs, no line is worse, and each smaller one is better. -/
structure Worst (L : List XD) (W : Int) : Prop where
  occ : 0 < loN L W L.length
  most : ∀ l : Int, 0 < loN L l L.length → szI (loS L l L.length) * loN L W L.length ≤ szI (loS L W L.length) * loN L l L.length
  least : ∀ l : Int, l < W → 0 < loN L l L.length → szI (loS L l L.length) * loN L W L.length < szI (loS L W L.length) * loN L l L.length
theorem worst_one {L : List XD} {V W : Int} (h : Worst L V) (k : Worst L W) : V = W := by
  rcases Int.lt_trichotomy V W with a | a | a
  · have := k.least V a h.occ
    have := h.most W k.occ
    omega
  · exact a
  · have := h.least W a k.occ
    have := k.most V h.occ
    omega
theorem occ_in {L : List XD} (h : Good10 L) {l : Int} (hl : 0 < loN L l L.length) : 1 ≤ l ∧ l ≤ 99 := by
  obtain ⟨j, hj, rfl⟩ := loN_some hl
  exact (xdB_parts (h.one j hj)).1
theorem woK_first (L : List XD) : ∀ k, (woK L k).1 ≠ 0 → ∀ j : Nat, 1 ≤ j → (j : Int) < (woK L k).1 → 0 < loN L j L.length → szI (loS L j L.length) * (woK L k).2.2 < (woK L k).2.1 * loN L j L.length
  | 0, h, _, _, _, _ => absurd rfl h
  | k + 1, h, j, hj1, hj2, hjn => by
    have ih := woK_first L k
    have is := woK_is L k
    obtain ⟨r, hr⟩ : ∃ r, woK L k = r := ⟨_, rfl⟩
    rw [hr] at ih is
    obtain ⟨l, hl⟩ : ∃ l : Int, (k : Int) + 1 = l := ⟨_, rfl⟩
    have hstep : woK L (k + 1) = if 0 < loN L l L.length ∧ (r.1 = 0 ∨ r.2.1 * loN L l L.length < szI (loS L l L.length) * r.2.2) then (l, szI (loS L l L.length), (loN L l L.length : Int)) else r := by
      rw [woK, hr, hl]
    rw [hstep] at h hj2 ⊢
    by_cases hc : 0 < loN L l L.length ∧ (r.1 = 0 ∨ r.2.1 * loN L l L.length < szI (loS L l L.length) * r.2.2)
    · rw [if_pos hc] at h hj2 ⊢
      have hj3 : (j : Int) < l := hj2
      rcases is with ⟨_, h0⟩ | ⟨_, hp, h1, h2, h3⟩
      · have := h0 j hj1 (by omega)
        omega
      · have h4 := h3 j hj1 (by omega) hjn
        rcases hc.2 with h0 | h0
        · have a := (woK_is L k)
          rw [hr] at a
          rcases a with ⟨_, b⟩ | ⟨⟨b, _⟩, _⟩
          · have := b j hj1 (by omega)
            omega
          · omega
        · have hq : 0 < r.2.2 := by rw [h2]; omega
          show szI (loS L j L.length) * (loN L l L.length : Int) < szI (loS L l L.length) * loN L j L.length
          obtain ⟨x, hx⟩ : ∃ x, szI (loS L j L.length) = x := ⟨_, rfl⟩
          obtain ⟨m, hm⟩ : ∃ m, loN L j L.length = m := ⟨_, rfl⟩
          obtain ⟨n, hn⟩ : ∃ n, loN L l L.length = n := ⟨_, rfl⟩
          obtain ⟨s, hs⟩ : ∃ s, szI (loS L l L.length) = s := ⟨_, rfl⟩
          rw [hx, hm] at h4
          rw [hm] at hjn
          rw [hn, hs] at h0
          rw [hx, hm, hn, hs]
          obtain ⟨a, ha⟩ : ∃ a, r.2.1 = a := ⟨_, rfl⟩
          obtain ⟨b, hb⟩ : ∃ b, r.2.2 = b := ⟨_, rfl⟩
          rw [ha, hb] at h0 h4
          rw [hb] at hq
          have t1 : x * b * n ≤ a * m * n := Int.mul_le_mul_of_nonneg_right h4 (by omega)
          have t2 : a * n * m < s * b * m := Int.mul_lt_mul_of_pos_right h0 (by omega)
          have e1 : x * n * b = x * b * n := by rw [Int.mul_assoc, Int.mul_comm (n : Int) b, ← Int.mul_assoc]
          have e2 : s * m * b = s * b * m := by rw [Int.mul_assoc, Int.mul_comm (m : Int) b, ← Int.mul_assoc]
          have e3 : a * m * n = a * n * m := by rw [Int.mul_assoc, Int.mul_comm (m : Int) n, ← Int.mul_assoc]
          have t3 : x * n * b < s * m * b := by
            rw [e1, e2]
            rw [e3] at t1
            exact Int.lt_of_le_of_lt t1 t2
          exact (Int.mul_lt_mul_right hq).1 t3
    · rw [if_neg hc] at h hj2 ⊢
      exact ih h j hj1 hj2 hjn
/-- Of the lines up to 99 the one that the law's model finds. -/
theorem woK_worst {L : List XD} (h : Good10 L) (h0 : 0 < L.length) : Worst L (woK L 99).1 := by
  have hocc : 0 < loN L (xdAt L 0).ln L.length := loN_pos h0 rfl
  rcases woK_is L 99 with ⟨_, h1⟩ | ⟨⟨h1, h2⟩, h3, h4, h5, h6⟩
  · have hb := occ_in h hocc
    have := h1 (xdAt L 0).ln.toNat (by omega) (by omega)
    rw [Int.toNat_of_nonneg (by omega)] at this
    omega
  · refine ⟨h3, fun l hl => ?_, fun l hlt hl => ?_⟩
    · have hb := occ_in h hl
      have := h6 l.toNat (by omega) (by omega)
      rw [Int.toNat_of_nonneg (by omega)] at this
      have := this hl
      rwa [h4, h5] at this
    · have hb := occ_in h hl
      have := woK_first L 99 (by omega) l.toNat (by omega)
      rw [Int.toNat_of_nonneg (by omega)] at this
      have := this hlt hl
      rwa [h4, h5] at this
/-- The place of the first of the first k + 1 lines whose offset is greatest without sign. -/
def wmK (L : List XD) (ls : List Int) : Nat → Nat
  | 0 => 0
  | k + 1 => if szI (mfN (crF L (ls.getD (wmK L ls k) 0))) * mfD (crF L (ls.getD (k + 1) 0)) < szI (mfN (crF L (ls.getD (k + 1) 0))) * mfD (crF L (ls.getD (wmK L ls k) 0)) then k + 1 else wmK L ls k
theorem wmK_le (L : List XD) (ls : List Int) : ∀ k, wmK L ls k ≤ k
  | 0 => Nat.le_refl _
  | k + 1 => by
    have := wmK_le L ls k
    rw [wmK]
    split <;> omega
def sB (L : List XD) (l : Int) : Int := szI (loS L l L.length)
def nB (L : List XD) (l : Int) : Int := (loN L l L.length : Int)
theorem frac_trans {x a s b m n : Int} (h1 : x * b ≤ a * m) (h2 : a * n < s * b) (hb : 0 < b) (hn : 0 ≤ n) (hm : 0 < m) : x * n < s * m := by
  have t1 : x * b * n ≤ a * m * n := Int.mul_le_mul_of_nonneg_right h1 hn
  have t2 : a * n * m < s * b * m := Int.mul_lt_mul_of_pos_right h2 hm
  have e1 : x * n * b = x * b * n := by rw [Int.mul_assoc, Int.mul_comm n b, ← Int.mul_assoc]
  have e2 : s * m * b = s * b * m := by rw [Int.mul_assoc, Int.mul_comm m b, ← Int.mul_assoc]
  have e3 : a * m * n = a * n * m := by rw [Int.mul_assoc, Int.mul_comm m n, ← Int.mul_assoc]
  have t3 : x * n * b < s * m * b := by
    rw [e1, e2]
    rw [e3] at t1
    exact Int.lt_of_le_of_lt t1 t2
  exact (Int.mul_lt_mul_right hb).1 t3
theorem wmK_is {L : List XD} {ls : List Int} (hn : ∀ l, l ∈ ls → 0 < loN L l L.length) : ∀ k, k < ls.length → (∀ p, p ≤ k → sB L (ls.getD p 0) * nB L (ls.getD (wmK L ls k) 0) ≤ sB L (ls.getD (wmK L ls k) 0) * nB L (ls.getD p 0)) ∧ ∀ p, p < wmK L ls k → sB L (ls.getD p 0) * nB L (ls.getD (wmK L ls k) 0) < sB L (ls.getD (wmK L ls k) 0) * nB L (ls.getD p 0)
  | 0, _ => by
    refine ⟨fun p hp => ?_, fun p hp => absurd hp (by simp [wmK])⟩
    obtain rfl : p = 0 := by omega
    exact Int.le_refl _
  | k + 1, hk => by
    obtain ⟨h1, h2⟩ := wmK_is hn k (by omega)
    have hle := wmK_le L ls k
    have hmem : ∀ p, p < ls.length → ls.getD p 0 ∈ ls := fun p hp => by rw [List.getD_eq_getElem?_getD, List.getElem?_eq_getElem hp]; exact List.getElem_mem hp
    have hpos : ∀ p, p < ls.length → 0 < nB L (ls.getD p 0) := fun p hp => by have := hn _ (hmem p hp); unfold nB; omega
    have hcmp : ∀ p q, p < ls.length → q < ls.length → (szI (mfN (crF L (ls.getD p 0))) * mfD (crF L (ls.getD q 0)) < szI (mfN (crF L (ls.getD q 0))) * mfD (crF L (ls.getD p 0)) ↔ sB L (ls.getD p 0) * nB L (ls.getD q 0) < sB L (ls.getD q 0) * nB L (ls.getD p 0)) := fun p q hp hq => by
      have e1 := lo_all L (ls.getD p 0)
      have e2 := lo_all L (ls.getD q 0)
      have := hn _ (hmem p hp)
      have := hn _ (hmem q hq)
      rw [mf_lt (by omega) (by omega)]
      unfold sB nB
      rw [e1.1, e1.2, e2.1, e2.2]
    rw [wmK]
    by_cases hc : szI (mfN (crF L (ls.getD (wmK L ls k) 0))) * mfD (crF L (ls.getD (k + 1) 0)) < szI (mfN (crF L (ls.getD (k + 1) 0))) * mfD (crF L (ls.getD (wmK L ls k) 0))
    · rw [if_pos hc]
      have hc2 := (hcmp _ _ (by omega) (by omega)).1 hc
      have key : ∀ p, p ≤ k → sB L (ls.getD p 0) * nB L (ls.getD (k + 1) 0) < sB L (ls.getD (k + 1) 0) * nB L (ls.getD p 0) := fun p hp =>
        frac_trans (h1 p hp) hc2 (hpos _ (by omega)) (Int.le_of_lt (hpos _ (by omega))) (hpos _ (by omega))
      refine ⟨fun p hp => ?_, fun p hp => key p (by omega)⟩
      rcases Nat.lt_or_ge p (k + 1) with a | a
      · exact Int.le_of_lt (key p (by omega))
      · obtain rfl : p = k + 1 := by omega
        exact Int.le_refl _
    · rw [if_neg hc]
      refine ⟨fun p hp => ?_, h2⟩
      rcases Nat.lt_or_ge p (k + 1) with a | a
      · exact h1 p (by omega)
      · obtain rfl : p = k + 1 := by omega
        exact Int.not_lt.1 (fun hx => hc ((hcmp _ _ (by omega) (by omega)).2 hx))
theorem crL9_pos {L : List XD} (h0 : 0 < L.length) : 0 < (crL9 L L.length).length := by
  have h : (xdAt L 0).ln ∈ crL9 L L.length := crL9_iff.2 (loN_pos h0 rfl)
  exact List.length_pos_of_mem h
theorem wmK_worst {L : List XD} (h0 : 0 < L.length) : Worst L ((crL9 L L.length).getD (wmK L (crL9 L L.length) ((crL9 L L.length).length - 1)) 0) := by
  obtain ⟨ls, hls⟩ : ∃ ls, crL9 L L.length = ls := ⟨_, rfl⟩
  have hp : 0 < ls.length := by rw [← hls]; exact crL9_pos h0
  have hn : ∀ l, l ∈ ls → 0 < loN L l L.length := fun l hl => by rw [← hls] at hl; exact crL9_iff.1 hl
  have hs : ls.Pairwise (· < ·) := by rw [← hls]; exact crL9_sorted L _
  rw [hls]
  obtain ⟨h1, h2⟩ := wmK_is hn (ls.length - 1) (by omega)
  have hle := wmK_le L ls (ls.length - 1)
  obtain ⟨m, hm⟩ : ∃ m, wmK L ls (ls.length - 1) = m := ⟨_, rfl⟩
  rw [hm] at h1 h2 hle ⊢
  have hat : ∀ p, p < ls.length → ls[p]? = some (ls.getD p 0) := fun p hp => by rw [List.getD_eq_getElem?_getD, List.getElem?_eq_getElem hp]; rfl
  have hmem : ∀ p, p < ls.length → ls.getD p 0 ∈ ls := fun p hp => List.mem_of_getElem? (hat p hp)
  have hfind : ∀ l : Int, 0 < loN L l L.length → ∃ p, p < ls.length ∧ ls.getD p 0 = l := fun l hl => by
    have : l ∈ ls := by rw [← hls]; exact crL9_iff.2 hl
    obtain ⟨p, hp⟩ := List.mem_iff_getElem?.1 this
    have hpl := (List.getElem?_eq_some_iff.1 hp).1
    exact ⟨p, hpl, by have := (hat p hpl).symm.trans hp; exact Option.some.inj this⟩
  refine ⟨hn _ (hmem m (by omega)), fun l hl => ?_, fun l hlt hl => ?_⟩
  · obtain ⟨p, hpl, rfl⟩ := hfind l hl
    exact h1 p (by omega)
  · obtain ⟨p, hpl, rfl⟩ := hfind l hl
    refine h2 p ?_
    rcases Nat.lt_or_ge p m with a | a
    · exact a
    · exfalso
      rcases Nat.lt_or_ge m p with b | b
      · have := List.pairwise_iff_getElem.1 hs m p (by omega) hpl b
        have e1 := List.getElem?_eq_getElem (show m < ls.length by omega)
        have e2 := List.getElem?_eq_getElem hpl
        rw [hat m (by omega)] at e1
        rw [hat p hpl] at e2
        have e1 := Option.some.inj e1
        have e2 := Option.some.inj e2
        omega
      · obtain rfl : p = m := by omega
        omega
/-- What both find is the same line. -/
theorem worst_same {L : List XD} (h : Good10 L) (h0 : 0 < L.length) : (crL9 L L.length).getD (wmK L (crL9 L L.length) ((crL9 L L.length).length - 1)) 0 = (woK L 99).1 := worst_one (wmK_worst h0) (woK_worst h h0)
end Go.Proofs.Ytllfmjnniagjfaa
