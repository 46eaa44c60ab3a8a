/-
  Curves of tides and their levels, in plain words. Conditions: stated at each theorem.
-/
import Derived.Test.YtdmnkmdlochogaaPlace
import Derived.Test.YtdmnkmdlochogaaRed
namespace Go.Proofs.Ytdmnkmdlochogaa
open Go.RowKit

/-! ### Curves -/
def tideP (x y : Int) : Bool := inB x 0 10000 && inB y (-1000) 2000
def tstepB (l : List (Int × Int)) (k : Nat) : Bool := tideP (l.getD k (0, 0)).1 (l.getD k (0, 0)).2 && (k == 0 || decide ((l.getD (k - 1) (0, 0)).1 < (l.getD k (0, 0)).1))
def tgoodK (l : List (Int × Int)) (k : Nat) : Bool := (List.range k).all (tstepB l)
def tideB (l : List (Int × Int)) : Bool := inB l.length 1 12 && tgoodK l l.length
theorem tgoodK_succ (l : List (Int × Int)) (k : Nat) : tgoodK l (k + 1) = (tgoodK l k && tstepB l k) := by
  unfold tgoodK
  rw [List.range_succ, List.all_append]
  simp
theorem tgoodK_bad {l : List (Int × Int)} {k n : Nat} (h : k < n) (hb : tstepB l k = false) : tgoodK l n = false := by
  unfold tgoodK
  rw [List.all_eq_false]
  exact ⟨k, by simpa using h, by simpa using hb⟩
theorem tstep_bad {l : List (Int × Int)} {k : Nat} {x y : Int} (h : l[k]? = some (x, y)) (hr : tideP x y = false) : tstepB l k = false := by
  unfold tstepB; rw [getD_at h, hr]; rfl
theorem tstep_zero {l : List (Int × Int)} {x y : Int} (h : l[0]? = some (x, y)) (hr : tideP x y = true) : tstepB l 0 = true := by
  unfold tstepB; rw [getD_at h, hr]; rfl
theorem tstep_at {l : List (Int × Int)} {k : Nat} {x y x' y' : Int} (h : l[k + 1]? = some (x, y)) (h' : l[k]? = some (x', y')) (hr : tideP x y = true) : tstepB l (k + 1) = decide (x' < x) := by
  unfold tstepB; rw [getD_at h, Nat.add_sub_cancel, getD_at h', hr]; simp
theorem tideB_len {l : List (Int × Int)} (h : inB l.length 1 12 = false) : tideB l = false := by unfold tideB; rw [h]; rfl
theorem tideB_bad {l : List (Int × Int)} (h : tgoodK l l.length = false) : tideB l = false := by unfold tideB; rw [h, Bool.and_false]
theorem tideB_good {l : List (Int × Int)} (h : tgoodK l l.length = true) : tideB l = inB l.length 1 12 := by unfold tideB; rw [h, Bool.and_true]
theorem tide_parts {l : List (Int × Int)} (h : tideB l = true) : (1 ≤ l.length ∧ l.length ≤ 12) ∧ tgoodK l l.length = true := by
  unfold tideB at h
  rw [Bool.and_eq_true] at h
  have h1 := inB_yes h.1
  exact ⟨by omega, h.2⟩
theorem tgood_at {l : List (Int × Int)} {n : Nat} (h : tgoodK l n = true) {k : Nat} (hk : k < n) : tstepB l k = true := by
  unfold tgoodK at h
  exact List.all_eq_true.1 h k (by simpa using hk)
theorem tide_asc {l : List (Int × Int)} (h : tideB l = true) : Asc l := by
  have hg := (tide_parts h).2
  intro p q
  induction q with
  | zero => intro h; omega
  | succ q ih =>
    intro hpq hq
    have hs := tgood_at hg hq
    unfold tstepB at hs
    rw [Bool.and_eq_true] at hs
    have h2 : tmAt l q < tmAt l (q + 1) := by
      have := hs.2
      simpa [tmAt] using this
    rcases Nat.lt_or_ge p q with hlt | hge
    · exact Int.lt_trans (ih hlt (by omega)) h2
    · obtain rfl : p = q := by omega
      exact h2
theorem tide_at {l : List (Int × Int)} (h : tideB l = true) {k : Nat} (hk : k < l.length) : (0 ≤ tmAt l k ∧ tmAt l k ≤ 10000) ∧ (-1000 ≤ lvAt l k ∧ lvAt l k ≤ 2000) := by
  have hs := tgood_at (tide_parts h).2 hk
  unfold tstepB tideP at hs
  simp only [Bool.and_eq_true] at hs
  exact ⟨inB_yes hs.1.1, inB_yes hs.1.2⟩

/-! ### Lowest terms -/
def rdN (n : Int) (d : Nat) : Int := n.tdiv (gd n d : Nat)
def rdD (n : Int) (d : Nat) : Nat := d / gd n d
theorem gd_pos (n : Int) {d : Nat} (h : 0 < d) : 0 < gd n d := Nat.gcd_pos_of_pos_right _ h
theorem rd_num (n : Int) (d : Nat) : n = (gd n d : Int) * rdN n d := by
  have hd : ((gd n d : Nat) : Int) ∣ n := Int.natAbs_dvd_natAbs.1 (by rw [Int.natAbs_natCast]; exact Nat.gcd_dvd_left _ _)
  unfold rdN
  rw [Int.tdiv_eq_ediv_of_dvd hd, Int.mul_ediv_cancel' hd]
theorem rd_den (n : Int) (d : Nat) : d = gd n d * rdD n d :=
  (Nat.mul_div_cancel' (Nat.gcd_dvd_right n.natAbs d)).symm
theorem rdD_pos (n : Int) {d : Nat} (h : 0 < d) : 0 < rdD n d := by
  have h1 := rd_den n d
  rcases Nat.eq_zero_or_pos (rdD n d) with e | e
  · rw [e, Nat.mul_zero] at h1; omega
  · exact e
theorem rdD_cast (n : Int) (d : Nat) : (d : Int) / (gd n d : Nat) = (rdD n d : Int) := by unfold rdD; rw [Int.natCast_ediv]
theorem gd_mul (k : Nat) (n : Int) (d : Nat) : gd ((k : Int) * n) (k * d) = k * gd n d := by
  unfold gd
  rw [Int.natAbs_mul, Int.natAbs_natCast, Nat.gcd_mul_left]
theorem rdN_mul {k : Nat} (hk : 0 < k) (n : Int) (d : Nat) : rdN ((k : Int) * n) (k * d) = rdN n d := by
  unfold rdN
  rw [gd_mul, Int.natCast_mul, Int.mul_tdiv_mul_of_pos _ _ (Int.natCast_pos.2 hk)]
theorem rdD_mul {k : Nat} (hk : 0 < k) (n : Int) (d : Nat) : rdD ((k : Int) * n) (k * d) = rdD n d := by
  unfold rdD
  rw [gd_mul, Nat.mul_div_mul_left _ _ hk]
theorem gd_one (n : Int) : gd n 1 = 1 := by unfold gd; rw [Nat.gcd_one_right]
theorem rdN_one (n : Int) : rdN n 1 = n := by unfold rdN; rw [gd_one]; simp
theorem rdD_one (n : Int) : rdD n 1 = 1 := by unfold rdD; rw [gd_one]

/-! ### Levels -/
def lvHit (l : List (Int × Int)) (t : Int) : Bool := hitB l t (lbK l t)
def lvK (l : List (Int × Int)) (t : Int) : Bool := lvHit l t || decide (0 < lbK l t ∧ lbK l t < l.length ∧ tmAt l (lbK l t) - tmAt l (lbK l t - 1) ≤ 60)
def lvD (l : List (Int × Int)) (t : Int) : Nat := if lvHit l t then 1 else (tmAt l (lbK l t) - tmAt l (lbK l t - 1)).toNat
def lvN (l : List (Int × Int)) (t : Int) : Int := if lvHit l t then lvAt l (lbK l t) else lvAt l (lbK l t - 1) * (tmAt l (lbK l t) - t) + lvAt l (lbK l t) * (t - tmAt l (lbK l t - 1))
theorem lv_hit {l : List (Int × Int)} {t : Int} {i : Nat} (h : IsLb l t i) (ht : hitB l t i = true) : lvK l t = true ∧ lvD l t = 1 ∧ lvN l t = lvAt l i := by
  have e := lb_is h
  have hh : lvHit l t = true := by unfold lvHit; rw [e]; exact ht
  unfold lvK lvD lvN
  rw [hh, e]
  exact ⟨rfl, rfl, rfl⟩
theorem lv_mid {l : List (Int × Int)} {t : Int} {j : Nat} (h : IsLb l t (j + 1)) (ht : hitB l t (j + 1) = false) (hj : j + 1 < l.length) (hg : tmAt l (j + 1) - tmAt l j ≤ 60) :
    lvK l t = true ∧ lvD l t = (tmAt l (j + 1) - tmAt l j).toNat ∧ lvN l t = lvAt l j * (tmAt l (j + 1) - t) + lvAt l (j + 1) * (t - tmAt l j) := by
  have e := lb_is h
  have hh : lvHit l t = false := by unfold lvHit; rw [e]; exact ht
  unfold lvK lvD lvN
  rw [hh, e]
  simp [hj, hg]
theorem lv_no {l : List (Int × Int)} {t : Int} {i : Nat} (h : IsLb l t i) (ht : hitB l t i = false) (hg : 0 < i → i < l.length → 60 < tmAt l i - tmAt l (i - 1)) : lvK l t = false := by
  have e := lb_is h
  have hh : lvHit l t = false := by unfold lvHit; rw [e]; exact ht
  unfold lvK
  rw [hh, e, Bool.false_or]
  exact decide_eq_false (fun hc => by have := hg hc.1 hc.2.1; omega)
theorem lb_ex (l : List (Int × Int)) (ha : Asc l) (t : Int) : IsLb l t (lbK l t) := by
  have key : ∀ i, i ≤ l.length → (∀ p, p < i → tmAt l p < t) → ∃ j, IsLb l t j := by
    intro i hi
    generalize hn : l.length - i = n
    induction n generalizing i with
    | zero => intro h; exact ⟨i, hi, h, fun p hp hp' => by omega⟩
    | succ n ih =>
      intro h
      by_cases hlt : tmAt l i < t
      · exact ih (i + 1) (by omega) (by omega) (fun p hp => by
          rcases Nat.lt_or_ge p i with h1 | h1
          · exact h p h1
          · obtain rfl : p = i := by omega
            exact hlt)
      · refine ⟨i, hi, h, fun p hp hp' => ?_⟩
        rcases Nat.lt_or_ge i p with h1 | h1
        · have := ha i p h1 hp'; omega
        · obtain rfl : p = i := by omega
          omega
  obtain ⟨j, hj⟩ := key 0 (Nat.zero_le _) (fun p h => absurd h (by omega))
  rw [lb_is hj]; exact hj
/-- What a level is made of. -/
theorem lv_cases {l : List (Int × Int)} (ha : Asc l) {t : Int} (h : lvK l t = true) :
    (∃ i, i < l.length ∧ tmAt l i = t ∧ lvD l t = 1 ∧ lvN l t = lvAt l i) ∨
    (∃ j, j + 1 < l.length ∧ tmAt l j < t ∧ t < tmAt l (j + 1) ∧ tmAt l (j + 1) - tmAt l j ≤ 60 ∧ lvD l t = (tmAt l (j + 1) - tmAt l j).toNat ∧ lvN l t = lvAt l j * (tmAt l (j + 1) - t) + lvAt l (j + 1) * (t - tmAt l j)) := by
  have hl := lb_ex l ha t
  rcases hh : hitB l t (lbK l t) with _ | _
  · by_cases hc : 0 < lbK l t ∧ lbK l t < l.length ∧ tmAt l (lbK l t) - tmAt l (lbK l t - 1) ≤ 60
    · obtain ⟨j, hj⟩ : ∃ j, lbK l t = j + 1 := ⟨lbK l t - 1, by omega⟩
      rw [hj] at hl hh hc
      have hm := lv_mid hl hh hc.2.1 hc.2.2
      have h1 := hl.2.1 j (by omega)
      have h2 := hl.2.2 (j + 1) (Nat.le_refl _) hc.2.1
      have h3 := of_decide_eq_false hh
      exact .inr ⟨j, hc.2.1, h1, by omega, hc.2.2, hm.2.1, hm.2.2⟩
    · have := lv_no hl hh (fun h1 h2 => by omega)
      rw [this] at h; cases h
  · have h1 := of_decide_eq_true hh
    have hm := lv_hit hl hh
    exact .inl ⟨_, h1.1, h1.2, hm.2.1, hm.2.2⟩
theorem lv_between {l : List (Int × Int)} (ha : Asc l) {t lo hi : Int} (h : lvK l t = true) (hb : ∀ k, k < l.length → lo ≤ lvAt l k ∧ lvAt l k ≤ hi) :
    (1 ≤ lvD l t ∧ lvD l t ≤ 60) ∧ lo * lvD l t ≤ lvN l t ∧ lvN l t ≤ hi * lvD l t := by
  rcases lv_cases ha h with ⟨i, hi, _, hd, hn⟩ | ⟨j, hj, h1, h2, h3, hd, hn⟩
  · have := hb i hi
    rw [hd, hn]
    exact ⟨by omega, by omega, by omega⟩
  · have b1 := hb j (by omega)
    have b2 := hb (j + 1) hj
    have e : ((lvD l t : Nat) : Int) = (tmAt l (j + 1) - t) + (t - tmAt l j) := by rw [hd]; omega
    rw [e, hn, Int.mul_add, Int.mul_add]
    have p1 : 0 ≤ tmAt l (j + 1) - t := by omega
    have p2 : 0 ≤ t - tmAt l j := by omega
    have q1 := Int.mul_le_mul_of_nonneg_right b1.1 p1
    have q2 := Int.mul_le_mul_of_nonneg_right b1.2 p1
    have q3 := Int.mul_le_mul_of_nonneg_right b2.1 p2
    have q4 := Int.mul_le_mul_of_nonneg_right b2.2 p2
    exact ⟨by omega, by omega, by omega⟩
theorem lv_bd {l : List (Int × Int)} (h : tideB l = true) {t : Int} (hk : lvK l t = true) : (1 ≤ lvD l t ∧ lvD l t ≤ 60) ∧ -120000 ≤ lvN l t ∧ lvN l t ≤ 120000 := by
  have := lv_between (tide_asc h) (lo := -1000) (hi := 2000) hk (fun k hk => (tide_at h hk).2)
  omega
/-- Is there a level at t, and is it at least v? -/
def lvHas (l : List (Int × Int)) (v t : Int) : Bool := lvK l t && decide (v * lvD l t ≤ lvN l t)
def rlN (l : List (Int × Int)) (t : Int) : Int := rdN (lvN l t) (lvD l t)
def rlD (l : List (Int × Int)) (t : Int) : Nat := rdD (lvN l t) (lvD l t)
theorem rl_mul {l : List (Int × Int)} {t : Int} (h : 0 < lvD l t) : ∃ g : Nat, 0 < g ∧ 0 < rlD l t ∧ lvN l t = g * rlN l t ∧ lvD l t = g * rlD l t :=
  ⟨gd (lvN l t) (lvD l t), gd_pos _ h, rdD_pos _ h, rd_num _ _, rd_den _ _⟩
theorem rl_bd {l : List (Int × Int)} (h : tideB l = true) {t : Int} (hk : lvK l t = true) : (1 ≤ rlD l t ∧ rlD l t ≤ 60) ∧ -120000 ≤ rlN l t ∧ rlN l t ≤ 120000 := by
  have hb := lv_bd h hk
  obtain ⟨g, hg, hp, hn, hd⟩ := rl_mul (l := l) (t := t) (by omega)
  have h1 : rlD l t ≤ lvD l t := by
    rw [hd]; exact Nat.le_mul_of_pos_left _ hg
  have h2 : (rlN l t).natAbs ≤ (lvN l t).natAbs := by
    rw [hn, Int.natAbs_mul, Int.natAbs_natCast]; exact Nat.le_mul_of_pos_left _ hg
  omega
theorem rl_has {l : List (Int × Int)} {t : Int} (h : 0 < lvD l t) (v : Int) : (v * rlD l t ≤ rlN l t) ↔ (v * lvD l t ≤ lvN l t) := by
  obtain ⟨g, hg, _, hn, hd⟩ := rl_mul h
  have hg' : (0 : Int) < g := Int.natCast_pos.2 hg
  have e : v * (lvD l t : Int) = g * (v * rlD l t) := by rw [hd, Int.natCast_mul, ← Int.mul_assoc, Int.mul_comm v, Int.mul_assoc]
  rw [e, hn]
  exact (Int.mul_le_mul_left hg').symm
theorem rl_above {l : List (Int × Int)} {t u : Int} (h : 0 < lvD l t) (h' : 0 < lvD l u) : (rlN l u * rlD l t < rlN l t * rlD l u) ↔ (lvN l u * lvD l t < lvN l t * lvD l u) := by
  obtain ⟨g, hg, _, hn, hd⟩ := rl_mul h
  obtain ⟨k, hk, _, hm, he⟩ := rl_mul h'
  have hp : (0 : Int) < g * k := Int.mul_pos (Int.natCast_pos.2 hg) (Int.natCast_pos.2 hk)
  have e1 : lvN l u * (lvD l t : Int) = (g * k) * (rlN l u * rlD l t) := by rw [hm, hd, Int.natCast_mul]; simp only [Int.mul_assoc, Int.mul_comm, Int.mul_left_comm]
  have e2 : lvN l t * (lvD l u : Int) = (g * k) * (rlN l t * rlD l u) := by rw [hn, he, Int.natCast_mul]; simp only [Int.mul_assoc, Int.mul_comm, Int.mul_left_comm]
  rw [e1, e2]
  exact (Int.mul_lt_mul_left hp).symm
theorem rl_floor {l : List (Int × Int)} {t : Int} (h : 0 < lvD l t) (x : Int) : (x * rlD l t - rlN l t) / rlD l t = (x * lvD l t - lvN l t) / (lvD l t : Int) := by
  obtain ⟨g, hg, _, hn, hd⟩ := rl_mul h
  have hg' : (0 : Int) < g := Int.natCast_pos.2 hg
  have e : x * (lvD l t : Int) - lvN l t = g * (x * rlD l t - rlN l t) := by rw [hd, Int.natCast_mul, Int.mul_sub, ← hn, ← Int.mul_assoc, Int.mul_comm x, Int.mul_assoc]
  rw [e, hd, Int.natCast_mul, Int.mul_ediv_mul_of_pos _ _ hg']
end Go.Proofs.Ytdmnkmdlochogaa
