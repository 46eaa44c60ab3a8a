/-
  Layers, depths, fractions, times, divided layers in plain words. Conditions: stated at each theorem.
-/
import Derived.Test.YtdmnkmdlochogabBase
namespace Go.Proofs.Ytdmnkmdlochogab
set_option linter.unusedVariables false

/-! ### Layers -/
def stP (p : Int × Int) : Bool := inB p.1 1 5000 && inB p.2 1300 1700
def strB (l : List (Int × Int)) : Bool := inB l.length 1 5 && l.all stP
/-- All layers are in their ranges. -/
def Good (l : List (Int × Int)) : Prop := ∀ p ∈ l, (1 ≤ p.1 ∧ p.1 ≤ 5000) ∧ (1300 ≤ p.2 ∧ p.2 ≤ 1700)
theorem stP_yes {p : Int × Int} (h : stP p = true) : (1 ≤ p.1 ∧ p.1 ≤ 5000) ∧ (1300 ≤ p.2 ∧ p.2 ≤ 1700) := by
  unfold stP at h
  rw [Bool.and_eq_true] at h
  exact ⟨inB_yes h.1, inB_yes h.2⟩
theorem stP_mk {p : Int × Int} (h : (1 ≤ p.1 ∧ p.1 ≤ 5000) ∧ (1300 ≤ p.2 ∧ p.2 ≤ 1700)) : stP p = true := by
  unfold stP
  rw [inB_mk h.1.1 h.1.2, inB_mk h.2.1 h.2.2]; rfl
theorem str_parts {l : List (Int × Int)} (h : strB l = true) : (1 ≤ l.length ∧ l.length ≤ 5) ∧ Good l := by
  unfold strB at h
  rw [Bool.and_eq_true] at h
  have h1 := inB_yes h.1
  exact ⟨by omega, fun p hp => stP_yes (List.all_eq_true.1 h.2 p hp)⟩
theorem str_mk {l : List (Int × Int)} (h1 : 1 ≤ l.length) (h2 : l.length ≤ 5) (h : Good l) : strB l = true := by
  unfold strB
  rw [inB_mk (by omega) (by omega), List.all_eq_true.2 (fun p hp => stP_mk (h p hp))]; rfl
theorem Good.tail {p : Int × Int} {t : List (Int × Int)} (h : Good (p :: t)) : Good t := fun q hq => h q (List.mem_cons_of_mem _ hq)
theorem Good.head {p : Int × Int} {t : List (Int × Int)} (h : Good (p :: t)) : (1 ≤ p.1 ∧ p.1 ≤ 5000) ∧ (1300 ≤ p.2 ∧ p.2 ≤ 1700) := h p (List.mem_cons_self)
theorem Good.take {l : List (Int × Int)} (h : Good l) (k : Nat) : Good (l.take k) := fun q hq => h q (List.mem_of_mem_take hq)
theorem Good.drop {l : List (Int × Int)} (h : Good l) (k : Nat) : Good (l.drop k) := fun q hq => h q (List.mem_of_mem_drop hq)
theorem Good.at_ {l : List (Int × Int)} (h : Good l) {k : Nat} {x y : Int} (hk : l[k]? = some (x, y)) : (1 ≤ x ∧ x ≤ 5000) ∧ (1300 ≤ y ∧ y ≤ 1700) := h (x, y) (List.mem_of_getElem? hk)

/-! ### Depths -/
def thk : List (Int × Int) → Int
  | [] => 0
  | p :: t => p.1 + thk t
theorem thk_bd {l : List (Int × Int)} (h : Good l) : (l.length : Int) ≤ thk l ∧ thk l ≤ 5000 * l.length := by
  induction l with
  | nil => simp [thk]
  | cons p t ih => have := ih h.tail; have := h.head; simp [thk]; omega
theorem thk_snoc (l : List (Int × Int)) (p : Int × Int) : thk (l ++ [p]) = thk l + p.1 := by
  induction l with
  | nil => simp [thk]
  | cons q t ih => simp [thk, ih]; omega
theorem thk_take {l : List (Int × Int)} {k : Nat} {x y : Int} (h : l[k]? = some (x, y)) : thk (l.take (k + 1)) = thk (l.take k) + x := by
  obtain ⟨hk, he⟩ := List.getElem?_eq_some_iff.1 h
  rw [List.take_succ_eq_append_getElem hk, he, thk_snoc]
theorem thk_le {l : List (Int × Int)} (h : Good l) (k : Nat) : thk (l.take k) ≤ thk l := by
  induction l generalizing k with
  | nil => simp [thk]
  | cons p t ih =>
    cases k with
    | zero => have := (thk_bd h).1; simp [thk] at this ⊢; omega
    | succ k => have := ih h.tail k; simp [thk]; omega
/-- The part of the layer x (behind a depth of a) above a depth d. -/
def prt (x a d : Int) : Int := max 0 (min x (d - a))
theorem prt_bd {x a d : Int} (hx : 0 ≤ x) : 0 ≤ prt x a d ∧ prt x a d ≤ x := by unfold prt; omega
/-- A sum over layers of what a function says of each one's part above a depth. -/
def spr : List (Int × Int) → Int → Int
  | [], _ => 0
  | p :: t, d => min d p.1 * p.2 + spr t (d - min d p.1)
theorem spr_zero {l : List (Int × Int)} (h : Good l) : spr l 0 = 0 := by
  induction l with
  | nil => rfl
  | cons p t ih => have := h.head; rw [spr, show min 0 p.1 = 0 by omega, Int.zero_mul, Int.sub_zero, ih h.tail]; rfl
theorem spr_snoc {l : List (Int × Int)} (h : Good l) {d x y : Int} (hd : 0 ≤ d) (hx : 0 ≤ x) : spr (l ++ [(x, y)]) d = spr l d + prt x (thk l) d * y := by
  induction l generalizing d with
  | nil => simp only [List.nil_append, spr, thk]; rw [show prt x 0 d = min d x by unfold prt; omega]; omega
  | cons p t ih =>
    have hp := h.head
    have ht := (thk_bd h.tail).1
    simp only [List.cons_append, spr, thk]
    rw [ih h.tail (by omega)]
    have e : prt x (thk t) (d - min d p.1) = prt x (p.1 + thk t) d := by unfold prt; omega
    rw [e]; omega
theorem spr_take {l : List (Int × Int)} (h : Good l) {k : Nat} {x y d : Int} (hk : l[k]? = some (x, y)) (hd : 0 ≤ d) : spr (l.take (k + 1)) d = spr (l.take k) d + prt x (thk (l.take k)) d * y := by
  have hx := h.at_ hk
  obtain ⟨hk', he⟩ := List.getElem?_eq_some_iff.1 hk
  rw [List.take_succ_eq_append_getElem hk', he, spr_snoc (h.take k) hd (by omega)]
theorem mulY_bd {a b m n : Int} (h0 : 0 ≤ a) (h1 : a ≤ m) (h2 : 0 ≤ b) (h3 : b ≤ n) : 0 ≤ a * b ∧ a * b ≤ m * n :=
  ⟨Int.mul_nonneg h0 h2, Int.mul_le_mul h1 h3 h2 (by omega)⟩
theorem spr_bd {l : List (Int × Int)} (h : Good l) {d : Int} (hd : 0 ≤ d) : 0 ≤ spr l d ∧ spr l d ≤ 8500000 * l.length := by
  induction l generalizing d with
  | nil => simp [spr]
  | cons p t ih =>
    have hp := h.head
    have := ih h.tail (d := d - min d p.1) (by omega)
    have := mulY_bd (a := min d p.1) (b := p.2) (m := 5000) (n := 1700) (by omega) (by omega) (by omega) (by omega)
    simp only [spr, List.length_cons]
    omega
theorem spr_pos {l : List (Int × Int)} (h : Good l) {d : Int} (hd : 0 < d) (hl : 0 < l.length) : 0 < spr l d := by
  cases l with
  | nil => simp at hl
  | cons p t =>
    have hp := h.head
    have h2 := (spr_bd h.tail (d := d - min d p.1) (by omega)).1
    have h3 : 0 < min d p.1 * p.2 := Int.mul_pos (by omega) (by omega)
    simp only [spr]; omega

/-! ### Fractions -/
/-- A fraction and whether there is one, as three results. -/
def qN (o : Option Rat) : Int := match o with | none => 0 | some q => q.num
def qD (o : Option Rat) : Int := match o with | none => 0 | some q => (q.den : Int)
def qK (o : Option Rat) : Bool := o.isSome
theorem mk_num (n : Int) {d : Nat} (hd : 0 < d) : (mkRat n d).num = n.tdiv (Nat.gcd n.natAbs d : Nat) := by
  rw [Rat.num_mkRat, if_neg (by omega), Nat.gcd_comm, Int.tdiv_eq_ediv_of_dvd]
  exact Int.natAbs_dvd_natAbs.1 (by rw [Int.natAbs_natCast]; exact Nat.gcd_dvd_left _ _)
theorem mk_den (n : Int) {d : Nat} (hd : 0 < d) : ((mkRat n d).den : Int) = (d : Int) / (Nat.gcd n.natAbs d : Nat) := by
  rw [Rat.den_mkRat, if_neg (by omega), Nat.gcd_comm, Int.natCast_ediv]
theorem mk_den_dvd (n : Int) {d : Nat} (hd : 0 < d) : (mkRat n d).den ∣ d := by
  rw [Rat.den_mkRat, if_neg (by omega)]
  exact Nat.div_dvd_of_dvd (Nat.gcd_dvd_left _ _)
theorem mk_self (q : Rat) : mkRat q.num q.den = q := Rat.mkRat_self q
theorem den_pos (q : Rat) : 0 < q.den := Nat.pos_of_ne_zero q.den_nz
/-- The sum of two fractions that need not be in lowest terms. -/
theorem mk_add (n m : Int) {d e : Nat} (hd : 0 < d) (he : 0 < e) : mkRat n d + mkRat m e = mkRat (n * e + m * d) (d * e) := Rat.mkRat_add_mkRat n m (by omega) (by omega)
theorem mk_eq {n m : Int} {d e : Nat} (hd : 0 < d) (he : 0 < e) : mkRat n d = mkRat m e ↔ n * e = m * d := Rat.mkRat_eq_iff (by omega) (by omega)
theorem mk_le {n m : Int} {d e : Nat} (hd : 0 < d) (he : 0 < e) : mkRat n d ≤ mkRat m e ↔ n * e ≤ m * d := by
  rw [Rat.le_iff_sub_nonneg, Rat.sub_eq_add_neg, Rat.neg_mkRat, mk_add _ _ he hd, ← Rat.divInt_ofNat, Rat.divInt_nonneg_iff_of_pos_right (by have := Nat.mul_pos he hd; omega), Int.neg_mul]
  omega
theorem mk_nonneg {n : Int} {d : Nat} (hn : 0 ≤ n) : 0 ≤ mkRat n d := by rw [← Rat.divInt_ofNat]; exact Rat.divInt_nonneg hn (by omega)
theorem mk_zero {n : Int} {d : Nat} (hd : 0 < d) : mkRat n d = 0 ↔ n = 0 := Rat.mkRat_eq_zero (by omega)
theorem le_num (q : Rat) (k : Int) : q ≤ (k : Rat) ↔ q.num ≤ k * q.den := by rw [Rat.le_iff]; simp
theorem num_le (q : Rat) (k : Int) : (k : Rat) ≤ q ↔ k * q.den ≤ q.num := by rw [Rat.le_iff]; simp
theorem mk_one (k : Int) : mkRat k 1 = (k : Rat) := by simpa using Rat.mkRat_self (k : Rat)

/-! ### Times -/
def tmQ : List (Int × Int) → Int → Rat
  | [], _ => 0
  | p :: t, d => tmQ t (d - min d p.1) + mkRat (10 * min d p.1) p.2.toNat
theorem tmQ_snoc {l : List (Int × Int)} (h : Good l) {d x y : Int} (hd : 0 ≤ d) (hx : 0 ≤ x) : tmQ (l ++ [(x, y)]) d = tmQ l d + mkRat (10 * prt x (thk l) d) y.toNat := by
  induction l generalizing d with
  | nil => simp only [List.nil_append, tmQ, thk]; rw [show prt x 0 d = min d x by unfold prt; omega]
  | cons p t ih =>
    have hp := h.head
    have ht := (thk_bd h.tail).1
    simp only [List.cons_append, tmQ, thk]
    rw [ih h.tail (by omega)]
    have e : prt x (thk t) (d - min d p.1) = prt x (p.1 + thk t) d := by unfold prt; omega
    rw [e, Rat.add_assoc, Rat.add_assoc, Rat.add_comm (mkRat _ y.toNat)]
theorem tmQ_take {l : List (Int × Int)} (h : Good l) {k : Nat} {x y d : Int} (hk : l[k]? = some (x, y)) (hd : 0 ≤ d) : tmQ (l.take (k + 1)) d = tmQ (l.take k) d + mkRat (10 * prt x (thk (l.take k)) d) y.toNat := by
  have hx := h.at_ hk
  obtain ⟨hk', he⟩ := List.getElem?_eq_some_iff.1 hk
  rw [List.take_succ_eq_append_getElem hk', he, tmQ_snoc (h.take k) hd (by omega)]
/-- The product of the speeds. -/
def spd : List (Int × Int) → Nat
  | [] => 1
  | p :: t => p.2.toNat * spd t
theorem spd_bd {l : List (Int × Int)} (h : Good l) : 0 < spd l ∧ spd l ≤ 1700 ^ l.length := by
  induction l with
  | nil => simp [spd]
  | cons p t ih =>
    have hp := h.head
    have := ih h.tail
    simp only [spd, List.length_cons, Nat.pow_succ]
    refine ⟨Nat.mul_pos (by omega) this.1, ?_⟩
    rw [Nat.mul_comm (1700 ^ _)]
    exact Nat.mul_le_mul (by omega) this.2
theorem add_den_dvd (a b : Rat) : (a + b).den ∣ a.den * b.den := by
  rw [Rat.add_def']
  exact mk_den_dvd _ (Nat.mul_pos (den_pos a) (den_pos b))
theorem tmQ_den {l : List (Int × Int)} (h : Good l) (d : Int) : (tmQ l d).den ∣ spd l := by
  induction l generalizing d with
  | nil => simp [tmQ, spd]
  | cons p t ih =>
    have hp := h.head
    simp only [tmQ, spd]
    refine Nat.dvd_trans (add_den_dvd _ _) ?_
    rw [Nat.mul_comm]
    exact Nat.mul_dvd_mul (mk_den_dvd _ (by omega)) (ih h.tail _)
theorem tmQ_bd {l : List (Int × Int)} (h : Good l) {d : Int} (hd : 0 ≤ d) : 0 ≤ tmQ l d ∧ tmQ l d ≤ ((39 * l.length : Int) : Rat) := by
  induction l generalizing d with
  | nil => simp [tmQ]
  | cons p t ih =>
    have hp := h.head
    obtain ⟨h1, h2⟩ := ih h.tail (d := d - min d p.1) (by omega)
    have a0 : (0 : Rat) ≤ mkRat (10 * min d p.1) p.2.toNat := mk_nonneg (by omega)
    have a1 : mkRat (10 * min d p.1) p.2.toNat ≤ ((39 : Int) : Rat) := by
      rw [← mk_one, mk_le (by omega) (by omega)]; omega
    simp only [tmQ]
    refine ⟨Rat.add_nonneg h1 a0, ?_⟩
    have e : ((39 * ((t.length + 1 : Nat) : Int) : Int) : Rat) = ((39 * (t.length : Int) : Int) : Rat) + ((39 : Int) : Rat) := by
      rw [← Rat.intCast_add]; congr 1
    rw [List.length_cons, e]
    exact Rat.le_trans (Rat.add_le_add_right.2 h2) (Rat.add_le_add_left.2 a1)
/-! ### The depth after a time -/
def dpQ : List (Int × Int) → Rat → Option Rat
  | [], _ => none
  | p :: t, q => if q.num * p.2 ≤ 10 * p.1 * q.den then some (mkRat (q.num * p.2) (10 * q.den)) else (dpQ t (q - mkRat (10 * p.1) p.2.toNat)).map (· + (p.1 : Rat))
theorem rem_eq (q : Rat) {x y : Int} (hy : 0 < y) : q - mkRat (10 * x) y.toNat = mkRat (q.num * y - 10 * x * q.den) (q.den * y.toNat) := by
  have hd := den_pos q
  obtain ⟨n, hn⟩ : ∃ n : Nat, y = n := ⟨y.toNat, by omega⟩
  subst hn
  rw [Int.toNat_natCast, Rat.sub_eq_add_neg, Rat.neg_mkRat]
  conv => lhs; rw [← mk_self q]
  rw [mk_add _ _ hd (by omega), Int.neg_mul, ← Int.sub_eq_add_neg]
theorem exit_iff (q : Rat) {x y : Int} (hy : 0 < y) : q.num * y ≤ 10 * x * q.den ↔ q ≤ mkRat (10 * x) y.toNat := by
  have hd := den_pos q
  obtain ⟨n, hn⟩ : ∃ n : Nat, y = n := ⟨y.toNat, by omega⟩
  subst hn
  rw [Int.toNat_natCast]
  conv => rhs; lhs; rw [← mk_self q]
  rw [mk_le hd (by omega)]
theorem ten_eq (q : Rat) (y : Int) : mkRat (q.num * y) (10 * q.den) = q * mkRat y 10 := by
  conv => rhs; lhs; rw [← mk_self q]
  rw [Rat.mkRat_mul_mkRat, Nat.mul_comm]
theorem sum_eq (q : Rat) {x y : Int} (hq : q.num * y ≤ x) (d : Int) : mkRat (q.num * y) (10 * q.den) + (d : Rat) = mkRat (d * 10 * q.den + q.num * y) (10 * q.den) := by
  have hd := den_pos q
  rw [← mk_one, mk_add _ _ (by omega) (by omega), Nat.mul_one]
  congr 1
  rw [show ((1 : Nat) : Int) = 1 from rfl, Int.mul_one, Int.natCast_mul, Int.mul_assoc d, show ((10 : Nat) : Int) = 10 from rfl]
  omega
theorem up_eq (r : Rat) (x : Int) : r + (x : Rat) = mkRat (r.num * 1 + x * r.den) (r.den * 1) := by
  have hd := den_pos r
  rw [← mk_one]
  conv => lhs; lhs; rw [← mk_self r]
  rw [mk_add _ _ hd (by omega)]
  rfl
theorem dp_down {l : List (Int × Int)} {k : Nat} {x y : Int} (hk : l[k]? = some (x, y)) : l.drop k = (x, y) :: l.drop (k + 1) := by
  obtain ⟨h, e⟩ := List.getElem?_eq_some_iff.1 hk
  rw [List.drop_eq_getElem_cons h, e]
theorem map_add (o : Option Rat) (a b : Int) : (o.map (· + (a : Rat))).map (· + (b : Rat)) = o.map (· + ((b + a : Int) : Rat)) := by
  cases o with
  | none => rfl
  | some r => simp only [Option.map]; rw [Rat.intCast_add, Rat.add_assoc, Rat.add_comm (a : Rat)]
theorem dp_step {l : List (Int × Int)} {q : Rat} {p : Int × Int} {d : Int} (h : ¬ q.num * p.2 ≤ 10 * p.1 * q.den) : (dpQ (p :: l) q).map (· + (d : Rat)) = (dpQ l (q - mkRat (10 * p.1) p.2.toNat)).map (· + ((d + p.1 : Int) : Rat)) := by
  rw [dpQ, if_neg h, map_add]
theorem dp_exit {l : List (Int × Int)} {q : Rat} {p : Int × Int} {d : Int} (h : q.num * p.2 ≤ 10 * p.1 * q.den) : (dpQ (p :: l) q).map (· + (d : Rat)) = some (mkRat (d * 10 * q.den + q.num * p.2) (10 * q.den)) := by
  rw [dpQ, if_pos h, Option.map, sum_eq q h]
/-- What remains of a time lies in its range. -/
theorem rem_bd {q : Rat} {x y : Int} {D : Nat} (h0 : 0 ≤ q) (h1 : q ≤ ((200 : Int) : Rat)) (hx : 1 ≤ x ∧ x ≤ 5000) (hy : 1300 ≤ y ∧ y ≤ 1700) (h : ¬ q.num * y ≤ 10 * x * q.den) (hD : q.den * 1700 ≤ D) :
    0 ≤ q - mkRat (10 * x) y.toNat ∧ q - mkRat (10 * x) y.toNat ≤ ((200 : Int) : Rat) ∧ (q - mkRat (10 * x) y.toNat).den ≤ D := by
  have hlt : mkRat (10 * x) y.toNat ≤ q := by
    rw [exit_iff q (by omega), Rat.not_le] at h
    exact Rat.le_of_lt h
  have hp : 0 ≤ mkRat (10 * x) y.toNat := mk_nonneg (by omega)
  refine ⟨(Rat.le_iff_sub_nonneg _ _).1 hlt, ?_, ?_⟩
  · refine Rat.le_trans ?_ h1
    rw [Rat.sub_eq_add_neg]
    have := Rat.add_le_add_left (c := q).2 (Rat.neg_le_neg hp)
    rwa [Rat.neg_zero, Rat.add_zero] at this
  · rw [rem_eq q (by omega)]
    have h2 := Nat.le_of_dvd (Nat.mul_pos (den_pos q) (by omega)) (mk_den_dvd (q.num * y - 10 * x * q.den) (d := q.den * y.toNat) (Nat.mul_pos (den_pos q) (by omega)))
    exact Nat.le_trans h2 (Nat.le_trans (Nat.mul_le_mul_left _ (by omega)) hD)
theorem dp_bd {l : List (Int × Int)} (h : Good l) {q r : Rat} {D : Nat} (h0 : 0 ≤ q) (hr : dpQ l q = some r) (hD : q.den * 1700 ^ l.length ≤ D * 1700) : (0 ≤ r ∧ r ≤ ((thk l : Int) : Rat)) ∧ r.den ≤ 10 * D := by
  induction l generalizing q r with
  | nil => simp [dpQ] at hr
  | cons p t ih =>
    have hp := h.head
    have ht := (thk_bd h.tail).1
    rw [List.length_cons, Nat.pow_succ, ← Nat.mul_assoc] at hD
    have hD' := Nat.le_of_mul_le_mul_right hD (by omega)
    by_cases hx : q.num * p.2 ≤ 10 * p.1 * q.den
    · rw [dpQ, if_pos hx] at hr
      obtain rfl := Option.some.inj hr
      have hd := den_pos q
      have h1 : 0 ≤ q.num * p.2 := Int.mul_nonneg (Rat.num_nonneg.2 h0) (by omega)
      refine ⟨⟨mk_nonneg h1, ?_⟩, ?_⟩
      · rw [← mk_one, mk_le (by omega) (by omega)]
        simp only [thk]
        have e : (p.1 + thk t) * ((10 * q.den : Nat) : Int) = 10 * p.1 * q.den + thk t * ((10 * q.den : Nat) : Int) := by
          rw [Int.add_mul, Int.natCast_mul, ← Int.mul_assoc, Int.mul_comm p.1]; rfl
        rw [e]
        have : 0 ≤ thk t * ((10 * q.den : Nat) : Int) := Int.mul_nonneg (by omega) (by omega)
        simp only [Int.natCast_one, Int.mul_one]
        omega
      · have h2 := Nat.le_of_dvd (by omega) (mk_den_dvd (q.num * p.2) (d := 10 * q.den) (by omega))
        have h3 : q.den ≤ q.den * 1700 ^ t.length := Nat.le_mul_of_pos_right _ (Nat.pow_pos (by omega))
        omega
    · rw [dpQ, if_neg hx] at hr
      rcases he : dpQ t (q - mkRat (10 * p.1) p.2.toNat) with _ | r'
      · rw [he] at hr; simp at hr
      rw [he] at hr
      obtain rfl := Option.some.inj hr
      have hlt : mkRat (10 * p.1) p.2.toNat ≤ q := by
        have h := hx
        rw [exit_iff q (by omega), Rat.not_le] at h
        exact Rat.le_of_lt h
      have hz : (q - mkRat (10 * p.1) p.2.toNat).den ≤ q.den * 1700 := by
        rw [rem_eq q (by omega)]
        have h2 := Nat.le_of_dvd (Nat.mul_pos (den_pos q) (by omega)) (mk_den_dvd (q.num * p.2 - 10 * p.1 * q.den) (d := q.den * p.2.toNat) (Nat.mul_pos (den_pos q) (by omega)))
        exact Nat.le_trans h2 (Nat.mul_le_mul_left _ (by omega))
      obtain ⟨⟨a, b⟩, c⟩ := ih h.tail ((Rat.le_iff_sub_nonneg _ _).1 hlt) he (by
        refine Nat.le_trans (Nat.mul_le_mul_right _ hz) ?_
        rw [Nat.mul_right_comm]; exact Nat.mul_le_mul_right _ hD')
      have hp0 : (0 : Rat) ≤ (p.1 : Rat) := Rat.intCast_nonneg.2 (by omega)
      refine ⟨⟨Rat.add_nonneg a hp0, ?_⟩, ?_⟩
      · simp only [thk]
        rw [Int.add_comm, Rat.intCast_add]
        exact Rat.add_le_add_right.2 b
      · have h2 := Nat.le_of_dvd (Nat.mul_pos (den_pos _) (den_pos _)) (add_den_dvd r' (p.1 : Rat))
        rw [Rat.den_intCast, Nat.mul_one] at h2
        exact Nat.le_trans h2 c
theorem dp_time {l : List (Int × Int)} (h : Good l) {q r : Rat} (h0 : 0 ≤ q) (hr : dpQ l q = some r) {d : Int} (hd : 0 ≤ d) (hdr : (d : Rat) ≤ r) : tmQ l d ≤ q := by
  induction l generalizing q r d with
  | nil => simp [dpQ] at hr
  | cons p t ih =>
    have hp := h.head
    have hz : tmQ t 0 = 0 := Rat.le_antisymm (by
      clear ih hr
      have ht := h.tail
      clear h
      induction t with
      | nil => simp [tmQ]
      | cons a t ih2 => 
        have ha := ht.head
        rw [tmQ, show min 0 a.1 = 0 by omega]
        have := ih2 ht.tail
        rw [Int.sub_zero, Int.mul_zero, Rat.zero_mkRat, Rat.add_zero]; exact this) (tmQ_bd h.tail (by omega)).1
    by_cases hx : q.num * p.2 ≤ 10 * p.1 * q.den
    · rw [dpQ, if_pos hx] at hr
      obtain rfl := Option.some.inj hr
      have hq := den_pos q
      rw [← mk_one, mk_le (by omega) (by omega)] at hdr
      simp only [Int.natCast_mul, Int.natCast_one, Int.mul_one] at hdr
      have hle : d ≤ p.1 := by
        have h1 : d * (((10 : Nat) : Int) * q.den) ≤ p.1 * (((10 : Nat) : Int) * q.den) := by
          have e : p.1 * (((10 : Nat) : Int) * q.den) = 10 * p.1 * q.den := by rw [← Int.mul_assoc, Int.mul_comm p.1]; rfl
          rw [e]; exact Int.le_trans hdr hx
        exact Int.le_of_mul_le_mul_right h1 (by omega)
      rw [tmQ, show min d p.1 = d by omega, Int.sub_self, hz, Rat.zero_add]
      obtain ⟨n, hn⟩ : ∃ n : Nat, p.2 = n := ⟨p.2.toNat, by omega⟩
      rw [hn, Int.toNat_natCast]
      rw [hn] at hdr
      conv => rhs; rw [← mk_self q]
      rw [mk_le (by omega) hq]
      have e : d * (((10 : Nat) : Int) * q.den) = 10 * d * q.den := by rw [← Int.mul_assoc, Int.mul_comm d]; rfl
      rw [← e]; exact hdr
    · rw [dpQ, if_neg hx] at hr
      rcases he : dpQ t (q - mkRat (10 * p.1) p.2.toNat) with _ | r'
      · rw [he] at hr; simp at hr
      rw [he] at hr
      obtain rfl := Option.some.inj hr
      have hlt : mkRat (10 * p.1) p.2.toNat ≤ q := by
        have h := hx
        rw [exit_iff q (by omega), Rat.not_le] at h
        exact Rat.le_of_lt h
      rw [tmQ]
      by_cases hd1 : d ≤ p.1
      · rw [show min d p.1 = d by omega, Int.sub_self, hz, Rat.zero_add]
        refine Rat.le_trans ?_ hlt
        rw [mk_le (by omega) (by omega)]
        exact Int.mul_le_mul_of_nonneg_right (by omega) (by omega)
      · rw [show min d p.1 = p.1 by omega]
        have := ih h.tail ((Rat.le_iff_sub_nonneg _ _).1 hlt) he (d := d - p.1) (by omega) (by
          rw [Rat.intCast_sub, Rat.sub_right_le_iff_le_add]; exact hdr)
        exact Rat.le_sub_iff.1 this
theorem dp_less {l : List (Int × Int)} (h : Good l) {q q2 r : Rat} (h0 : 0 ≤ q2) (h2 : q2 ≤ q) (hr : dpQ l q = some r) : ∃ r2, dpQ l q2 = some r2 ∧ r2 ≤ r := by
  induction l generalizing q q2 r with
  | nil => simp [dpQ] at hr
  | cons p t ih =>
    have hp := h.head
    have hs : 0 ≤ mkRat p.2 10 := mk_nonneg (by omega)
    by_cases hx : q.num * p.2 ≤ 10 * p.1 * q.den
    · have hx2 : q2.num * p.2 ≤ 10 * p.1 * q2.den := by
        rw [exit_iff _ (by omega)] at hx ⊢
        exact Rat.le_trans h2 hx
      rw [dpQ, if_pos hx] at hr
      obtain rfl := Option.some.inj hr
      refine ⟨_, by rw [dpQ, if_pos hx2], ?_⟩
      rw [ten_eq, ten_eq]
      exact Rat.mul_le_mul_of_nonneg_right h2 hs
    · rw [dpQ, if_neg hx] at hr
      rcases he : dpQ t (q - mkRat (10 * p.1) p.2.toNat) with _ | r'
      · rw [he] at hr; simp at hr
      rw [he] at hr
      obtain rfl := Option.some.inj hr
      have hlt : mkRat (10 * p.1) p.2.toNat ≤ q := by
        have h := hx
        rw [exit_iff q (by omega), Rat.not_le] at h
        exact Rat.le_of_lt h
      have hr0 := (dp_bd (D := (q - mkRat (10 * p.1) p.2.toNat).den * 1700 ^ t.length) h.tail ((Rat.le_iff_sub_nonneg _ _).1 hlt) he (by omega)).1.1
      by_cases hx2 : q2.num * p.2 ≤ 10 * p.1 * q2.den
      · refine ⟨_, by rw [dpQ, if_pos hx2], ?_⟩
        have h3 : mkRat (q2.num * p.2) (10 * q2.den) ≤ (p.1 : Rat) := by
          have := den_pos q2
          rw [← mk_one, mk_le (by omega) (by omega)]
          simp only [Int.natCast_mul, Int.natCast_one, Int.mul_one]
          have e : p.1 * (((10 : Nat) : Int) * q2.den) = 10 * p.1 * q2.den := by rw [← Int.mul_assoc, Int.mul_comm p.1]; rfl
          rw [e]; exact hx2
        refine Rat.le_trans h3 ?_
        have := Rat.add_le_add_right (c := (p.1 : Rat)).2 hr0
        rwa [Rat.zero_add] at this
      · have hlt2 : mkRat (10 * p.1) p.2.toNat ≤ q2 := by
          have h := hx2
          rw [exit_iff q2 (by omega), Rat.not_le] at h
          exact Rat.le_of_lt h
        obtain ⟨r3, h3, h4⟩ := ih h.tail (q2 := q2 - mkRat (10 * p.1) p.2.toNat) ((Rat.le_iff_sub_nonneg _ _).1 hlt2) (by
          rw [Rat.sub_eq_add_neg, Rat.sub_eq_add_neg]; exact Rat.add_le_add_right.2 h2) he
        refine ⟨_, by rw [dpQ, if_neg hx2, h3]; rfl, ?_⟩
        exact Rat.add_le_add_right.2 h4
theorem tm_zero {l : List (Int × Int)} (h : Good l) (hl : 0 < l.length) {d : Int} (hd : 0 ≤ d) : tmQ l d = 0 ↔ d = 0 := by
  cases l with
  | nil => simp at hl
  | cons p t =>
    have hp := h.head
    have h1 := (tmQ_bd h.tail (d := d - min d p.1) (by omega)).1
    constructor
    · intro e
      rw [tmQ] at e
      have h2 : mkRat (10 * min d p.1) p.2.toNat ≤ 0 := by
        have := Rat.add_le_add_right (c := mkRat (10 * min d p.1) p.2.toNat).2 h1
        rwa [e, Rat.zero_add] at this
      have h3 : (0 : Rat) ≤ mkRat (10 * min d p.1) p.2.toNat := mk_nonneg (by omega)
      have h4 := (mk_zero (by omega)).1 (Rat.le_antisymm h2 h3)
      omega
    · intro e
      subst e
      clear h1
      have : ∀ l : List (Int × Int), Good l → tmQ l 0 = 0 := by
        intro l
        induction l with
        | nil => intro; rfl
        | cons a t ih =>
          intro h
          have ha := h.head
          rw [tmQ, show min 0 a.1 = 0 by omega, Int.sub_zero, Int.mul_zero, Rat.zero_mkRat, Rat.add_zero, ih h.tail]
      exact this _ h

/-! ### Divided layers -/
def spl : List (Int × Int) → Int → List (Int × Int)
  | [], _ => []
  | p :: t, d => if d ≤ 0 then p :: t else if p.1 ≤ d then p :: spl t (d - p.1) else (d, p.2) :: (p.1 - d, p.2) :: t
theorem spl_zero (l : List (Int × Int)) {d : Int} (h : d ≤ 0) : spl l d = l := by
  cases l with
  | nil => rfl
  | cons p t => rw [spl, if_pos h]
/-- One layer (behind a depth of a), divided at d. -/
def sp1 (x y a d : Int) : List (Int × Int) := if inB (prt x a d) 1 (x - 1) then [(prt x a d, y), (x - prt x a d, y)] else [(x, y)]
def spS : List (Int × Int) → Int → Int → List (Int × Int)
  | [], _, _ => []
  | p :: t, a, d => sp1 p.1 p.2 a d ++ spS t (a + p.1) d
theorem spS_snoc (l : List (Int × Int)) (x y a d : Int) : spS (l ++ [(x, y)]) a d = spS l a d ++ sp1 x y (a + thk l) d := by
  induction l generalizing a with
  | nil => simp [spS, thk]
  | cons p t ih => simp only [List.cons_append, spS, thk, ih, List.append_assoc]; rw [Int.add_assoc]
theorem spS_take {l : List (Int × Int)} {k : Nat} {x y : Int} (hk : l[k]? = some (x, y)) (d : Int) : spS (l.take (k + 1)) 0 d = spS (l.take k) 0 d ++ sp1 x y (thk (l.take k)) d := by
  obtain ⟨hk', he⟩ := List.getElem?_eq_some_iff.1 hk
  rw [List.take_succ_eq_append_getElem hk', he, spS_snoc, Int.zero_add]
theorem spS_eq {l : List (Int × Int)} (h : Good l) (a d : Int) : spS l a d = spl l (d - a) := by
  induction l generalizing a with
  | nil => rfl
  | cons p t ih =>
    have hp := h.head
    rw [spS, ih h.tail, spl]
    unfold sp1
    by_cases h1 : d - a ≤ 0
    · rw [if_pos h1, spl_zero t (by omega), show prt p.1 a d = 0 by unfold prt; omega, show inB 0 1 (p.1 - 1) = false from decide_eq_false (by omega)]
      rfl
    · rw [if_neg h1]
      by_cases h2 : p.1 ≤ d - a
      · rw [if_pos h2, show prt p.1 a d = p.1 by unfold prt; omega, show inB p.1 1 (p.1 - 1) = false from decide_eq_false (by omega), show d - (a + p.1) = d - a - p.1 by omega]
        rfl
      · rw [if_neg h2, spl_zero t (by omega), show prt p.1 a d = d - a by unfold prt; omega, inB_mk (by omega) (by omega)]
        rfl
theorem spl_good {l : List (Int × Int)} (h : Good l) (d : Int) : Good (spl l d) := by
  induction l generalizing d with
  | nil => exact h
  | cons p t ih =>
    have hp := h.head
    rw [spl]
    split
    · exact h
    split
    · intro q hq
      rcases List.mem_cons.1 hq with rfl | hq
      · exact hp
      · exact ih h.tail _ q hq
    · intro q hq
      rcases List.mem_cons.1 hq with rfl | hq
      · exact ⟨by simp only; omega, hp.2⟩
      rcases List.mem_cons.1 hq with rfl | hq
      · exact ⟨by simp only; omega, hp.2⟩
      · exact h.tail q hq
theorem spl_len (l : List (Int × Int)) (d : Int) : l.length ≤ (spl l d).length ∧ (spl l d).length ≤ l.length + 1 := by
  induction l generalizing d with
  | nil => simp [spl]
  | cons p t ih =>
    rw [spl]
    split
    · simp
    split
    · have := ih (d - p.1); simp; omega
    · simp
theorem spl_thk (l : List (Int × Int)) (d : Int) : thk (spl l d) = thk l := by
  induction l generalizing d with
  | nil => rfl
  | cons p t ih =>
    rw [spl]
    split
    · rfl
    split
    · simp only [thk]; rw [ih]
    · simp only [thk]; omega
theorem spl_spr {l : List (Int × Int)} (h : Good l) (d : Int) {e : Int} (he : 0 ≤ e) : spr (spl l d) e = spr l e := by
  induction l generalizing d e with
  | nil => rfl
  | cons p t ih =>
    have hp := h.head
    rw [spl]
    split
    · rfl
    split
    · simp only [spr]; rw [ih h.tail _ (by omega)]
    · simp only [spr]
      rw [show e - min e d - min (e - min e d) (p.1 - d) = e - min e p.1 by omega, ← Int.add_assoc, ← Int.add_mul, show min e d + min (e - min e d) (p.1 - d) = min e p.1 by omega]
/-- The speed of the first layer. -/
def sp0 (l : List (Int × Int)) : Int := (l.headD (0, 0)).2
theorem spl_head (l : List (Int × Int)) (d : Int) : sp0 (spl l d) = sp0 l := by
  cases l with
  | nil => rfl
  | cons p t => rw [spl]; split; rfl; split <;> rfl
end Go.Proofs.Ytdmnkmdlochogab
