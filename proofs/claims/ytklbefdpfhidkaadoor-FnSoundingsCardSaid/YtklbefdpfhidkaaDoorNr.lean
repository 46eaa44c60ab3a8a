/-
  Decimal numerals read back: plain facts on Lib.decDigits, Lib.itoa, Lib.atoiAll. Conditions: stated at each theorem.
-/
import Derived.Test.YtklbefdpfhidkaaDoorNt
import Derived.Lib.AtoiAll
namespace Go.Proofs.YtklbefdpfhidkaaDoor
open Go.RowKit Go.Sort

/-- A decimal digit. -/
def isDig (c : UInt8) : Prop := 48 ≤ c.toNat ∧ c.toNat ≤ 57
theorem dig_toNat (d : Nat) (h : d < 10) : (UInt8.ofNat (48 + d)).toNat = 48 + d := by
  rw [UInt8.toNat_ofNat']; omega
theorem decDigits_snoc (u : Nat) (h : ¬ u < 10) : Lib.decDigits u = Lib.decDigits (u / 10) ++ [UInt8.ofNat (48 + u % 10)] := by
  rw [Lib.decDigits, dif_neg h]
theorem decDigits_dig (u : Nat) : ∀ c ∈ Lib.decDigits u, isDig c := by
  induction u using Nat.strongRecOn with
  | _ u ih =>
    intro c hc
    by_cases h : u < 10
    · rw [Lib.decDigits_one h, List.mem_singleton] at hc
      subst hc
      unfold isDig
      rw [dig_toNat u h]; omega
    · rw [decDigits_snoc u h] at hc
      rcases List.mem_append.1 hc with hc | hc
      · exact ih (u / 10) (by omega) c hc
      · rw [List.mem_singleton] at hc
        subst hc
        unfold isDig
        rw [dig_toNat (u % 10) (by omega)]; omega
theorem decDigits_ne (u : Nat) : 1 ≤ (Lib.decDigits u).length := by
  rw [Lib.decDigits_length]; exact Lib.nDigits_pos u
theorem decDigits_le (m : Nat) : ∀ u, u < 10 ^ (m + 1) → (Lib.decDigits u).length ≤ m + 1 := by
  induction m with
  | zero => intro u h; rw [Lib.decDigits_one (by simpa using h)]; simp
  | succ m ih =>
    intro u h
    by_cases h1 : u < 10
    · rw [Lib.decDigits_one h1]; simp
    · rw [decDigits_snoc u h1]
      have := ih (u / 10) (by rw [Nat.pow_succ] at h; omega)
      simp only [List.length_append, List.length_cons, List.length_nil]
      omega
/-- The value of a list of digits. -/
def val (l : List UInt8) : Int := l.foldl (fun n c => 10 * n + ((c.toNat : Int) - 48)) 0
theorem val_snoc (l : List UInt8) (c : UInt8) : val (l ++ [c]) = 10 * val l + ((c.toNat : Int) - 48) := by
  unfold val; rw [List.foldl_append]; rfl
theorem val_digits (u : Nat) : val (Lib.decDigits u) = u := by
  induction u using Nat.strongRecOn with
  | _ u ih =>
    by_cases h : u < 10
    · rw [Lib.decDigits_one h]
      show 10 * (0 : Int) + (((UInt8.ofNat (48 + u)).toNat : Int) - 48) = u
      rw [dig_toNat u h]; omega
    · rw [decDigits_snoc u h, val_snoc, ih (u / 10) (by omega), dig_toNat (u % 10) (by omega)]
      omega
theorem val_step (l : List UInt8) : ∀ (h : Int) (B : Int), (∀ c ∈ l, isDig c) → 0 ≤ h → h ≤ B → 0 ≤ l.foldl (fun n c => 10 * n + ((c.toNat : Int) - 48)) h ∧ l.foldl (fun n (c : UInt8) => 10 * n + ((c.toNat : Int) - 48)) h ≤ B * 10 ^ l.length + (10 ^ l.length - 1) := by
  induction l with
  | nil => intro h B _ h0 h1; exact ⟨h0, by simpa using h1⟩
  | cons c l ih =>
    intro h B hd h0 h1
    have hc := hd c (List.mem_cons_self ..)
    unfold isDig at hc
    have := ih (10 * h + ((c.toNat : Int) - 48)) (10 * B + 9) (fun x hx => hd x (List.mem_cons_of_mem _ hx)) (by omega) (by omega)
    simp only [List.foldl_cons, List.length_cons]
    refine ⟨this.1, ?_⟩
    have e : (10 * B + 9) * 10 ^ l.length + (10 ^ l.length - 1) = B * 10 ^ (l.length + 1) + (10 ^ (l.length + 1) - 1) := by
      rw [Int.pow_succ, Int.add_mul, Int.mul_comm 10 B, Int.mul_assoc, Int.mul_comm 10 (10 ^ l.length)]
      omega
    rw [← e]
    exact this.2
theorem val_bd (l : List UInt8) (hd : ∀ c ∈ l, isDig c) (hl : l.length ≤ 6) : 0 ≤ val l ∧ val l ≤ 999999 := by
  have h := val_step l 0 0 hd (Int.le_refl _) (Int.le_refl _)
  refine ⟨h.1, ?_⟩
  have h2 := h.2
  have h3 : ∀ n : Nat, n ≤ 6 → (10 : Int) ^ n ≤ 1000000 := by decide
  have := h3 _ hl
  unfold val
  omega

/-! ### Lib.atoiAll behind Lib.itoa -/
theorem parse_app (l2 : List UInt8) : ∀ (l1 : List UInt8) (acc a : Nat), Lib.parseUint10 acc l1 = .ok a → Lib.parseUint10 acc (l1 ++ l2) = Lib.parseUint10 a l2
  | [], acc, a, h => by
    simp only [Lib.parseUint10, Lib.NumEnd.ok.injEq] at h
    subst h; rfl
  | c :: r, acc, a, h => by
    simp only [List.cons_append, Lib.parseUint10] at h ⊢
    split at h
    · rename_i hc
      rw [if_pos hc]
      split at h
      · cases h
      · rename_i h1
        rw [if_neg h1]
        split at h
        · cases h
        · rename_i h2
          rw [if_neg h2]
          exact parse_app l2 r _ a h
    · cases h
theorem parse_digits (u : Nat) : u ≤ 1000000000 → Lib.parseUint10 0 (Lib.decDigits u) = .ok u := by
  induction u using Nat.strongRecOn with
  | _ u ih =>
    intro hb
    have one : ∀ (acc d : Nat), d < 10 → acc ≤ 1000000000 → Lib.parseUint10 acc [UInt8.ofNat (48 + d)] = .ok (acc * 10 + d) := by
      intro acc d hd ha
      simp only [Lib.parseUint10]
      rw [dig_toNat d hd, if_pos ⟨by omega, by omega⟩, if_neg (by omega), if_neg (by omega)]
      congr 1
      omega
    by_cases h : u < 10
    · rw [Lib.decDigits_one h, one 0 u h (by omega)]
      congr 1
      omega
    · rw [decDigits_snoc u h, parse_app _ _ 0 (u / 10) (ih (u / 10) (by omega) (by omega)), one (u / 10) (u % 10) (by omega) (by omega)]
      congr 1
      omega
theorem parseMag_digits (u : Nat) (h : u ≤ 1000000000) : Lib.parseMag (Lib.decDigits u) = .ok u := by
  unfold Lib.parseMag
  rw [if_neg, parse_digits u h]
  intro e
  have := decDigits_ne u
  rw [e] at this
  simp at this
theorem decDigits_cons (u : Nat) : ∃ c r, Lib.decDigits u = c :: r ∧ isDig c := by
  match h : Lib.decDigits u with
  | [] =>
    have := decDigits_ne u
    rw [h] at this
    simp at this
  | c :: r => exact ⟨c, r, rfl, decDigits_dig u c (by rw [h]; exact List.mem_cons_self ..)⟩
theorem atoi_itoa (n : Int) (h0 : -999999 ≤ n) (h1 : n ≤ 999999) : Lib.atoiAll (Lib.itoa n) = .ok n := by
  by_cases hn : n < 0
  · obtain ⟨u, rfl⟩ : ∃ u : Nat, n = -(u : Int) := ⟨n.natAbs, by omega⟩
    rw [Lib.itoa_neg u (by omega)]
    have e : (45 : UInt8).toNat = 45 := rfl
    simp only [Lib.atoiAll, e, or_true, if_true, parseMag_digits u (by omega)]
    rw [if_neg (by simp), if_neg (by omega)]
  · obtain ⟨u, rfl⟩ : ∃ u : Nat, n = (u : Int) := ⟨n.toNat, by omega⟩
    rw [Lib.itoa_nonneg]
    obtain ⟨c, r, hc, hd⟩ := decDigits_cons u
    have hm := parseMag_digits u (by omega)
    rw [hc] at hm ⊢
    unfold isDig at hd
    have h43 : ¬ (c.toNat = 43 ∨ c.toNat = 45) := by omega
    have h45 : ¬ c.toNat = 45 := by omega
    simp only [Lib.atoiAll, if_neg h43, if_neg h45, hm]
    rw [if_neg (by omega), if_neg (by omega)]

/-! ### The numerals that are told -/
/-- s is the numeral of n, and n is within the limits. -/
def Num (s : ByteArray) (n : Int) : Prop := -999999 ≤ n ∧ n ≤ 999999 ∧ Lib.itoa n = s.data.toList
theorem Num.unique {s : ByteArray} {n m : Int} (h : Num s n) (k : Num s m) : n = m := by
  have h1 := atoi_itoa n h.1 h.2.1
  have h2 := atoi_itoa m k.1 k.2.1
  rw [h.2.2] at h1
  rw [k.2.2, h1] at h2
  injection h2
theorem Num.neg {s : ByteArray} {n : Int} {t : List UInt8} (h : Num s n) (hs : s.data.toList = 45 :: t) : ∃ u : Nat, u ≤ 999999 ∧ n = -(u : Int) ∧ t = Lib.decDigits u := by
  obtain ⟨h0, h1, h2⟩ := h
  by_cases hn : n < 0
  · obtain ⟨u, rfl⟩ : ∃ u : Nat, n = -(u : Int) := ⟨n.natAbs, by omega⟩
    rw [Lib.itoa_neg u (by omega), hs] at h2
    injection h2 with _ h2
    exact ⟨u, by omega, rfl, h2.symm⟩
  · obtain ⟨u, rfl⟩ : ∃ u : Nat, n = (u : Int) := ⟨n.toNat, by omega⟩
    rw [Lib.itoa_nonneg, hs] at h2
    have := decDigits_dig u 45 (by rw [h2]; exact List.mem_cons_self ..)
    unfold isDig at this
    have e : (45 : UInt8).toNat = 45 := rfl
    omega
theorem Num.pos {s : ByteArray} {n : Int} (h : Num s n) (hs : s.data.toList.length ≤ 1 ∨ s.data.toList[0]? ≠ some 45) : ∃ u : Nat, u ≤ 999999 ∧ n = (u : Int) ∧ s.data.toList = Lib.decDigits u := by
  obtain ⟨h0, h1, h2⟩ := h
  by_cases hn : n < 0
  · obtain ⟨u, rfl⟩ : ∃ u : Nat, n = -(u : Int) := ⟨n.natAbs, by omega⟩
    rw [Lib.itoa_neg u (by omega)] at h2
    have := decDigits_ne u
    rw [← h2] at hs
    rcases hs with hs | hs
    · simp only [List.length_cons] at hs; omega
    · simp at hs
  · obtain ⟨u, rfl⟩ : ∃ u : Nat, n = (u : Int) := ⟨n.toNat, by omega⟩
    rw [Lib.itoa_nonneg] at h2
    exact ⟨u, by omega, rfl, h2.symm⟩
theorem digits_form (u : Nat) (h : u ≤ 999999) : 1 ≤ (Lib.decDigits u).length ∧ (Lib.decDigits u).length ≤ 6 ∧ (∀ c ∈ Lib.decDigits u, isDig c) ∧ val (Lib.decDigits u) = u :=
  ⟨decDigits_ne u, decDigits_le 5 u (by omega), decDigits_dig u, val_digits u⟩
end Go.Proofs.YtklbefdpfhidkaaDoor
