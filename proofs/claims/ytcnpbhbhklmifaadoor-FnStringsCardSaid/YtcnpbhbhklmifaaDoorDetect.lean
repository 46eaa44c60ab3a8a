/-
  A sealed text with one byte changed is no sealed text: plain facts on lists of bytes. Conditions: stated at each theorem.
-/
import Derived.Test.YtcnpbhbhklmifaaDoorVerify
import Derived.Test.YtcnpbhbhklmifaaDoorParse
namespace Go.Proofs.YtcnpbhbhklmifaaDoor
open Go.RowKit Go.Sort

theorem sum_step_inj (h1 h2 c : Int) (a0 : 0 ≤ h1) (a1 : h1 ≤ 999978) (b0 : 0 ≤ h2) (b1 : h2 ≤ 999978) (h : (41 * h1 + c + 1) % 999979 = (41 * h2 + c + 1) % 999979) : h1 = h2 := by
  omega
theorem sum_inj (l : List UInt8) : ∀ h1 h2 : Int, 0 ≤ h1 → h1 ≤ 999978 → 0 ≤ h2 → h2 ≤ 999978 → sumFrom h1 l = sumFrom h2 l → h1 = h2 := by
  induction l with
  | nil => intro h1 h2 _ _ _ _ h; exact h
  | cons c l ih =>
    intro h1 h2 a0 a1 b0 b1 h
    have e : ∀ x, sumFrom x (c :: l) = sumFrom ((41 * x + (c.toNat : Int) + 1) % 999979) l := fun x => rfl
    rw [e, e] at h
    exact sum_step_inj h1 h2 c.toNat a0 a1 b0 b1 (ih _ _ (by omega) (by omega) (by omega) (by omega) h)
theorem sum_app (l1 l2 : List UInt8) (h : Int) : sumFrom h (l1 ++ l2) = sumFrom (sumFrom h l1) l2 := by
  unfold sumFrom; rw [List.foldl_append]
theorem sum_change (l1 l2 : List UInt8) (a b : UInt8) (hne : a ≠ b) : sumFrom 7 (l1 ++ a :: l2) ≠ sumFrom 7 (l1 ++ b :: l2) := by
  intro h
  rw [sum_app, sum_app] at h
  have hb := sumFrom_bd l1 7 (by decide) (by decide)
  have e : ∀ (x : Int) (c : UInt8), sumFrom x (c :: l2) = sumFrom ((41 * x + (c.toNat : Int) + 1) % 999979) l2 := fun x c => rfl
  rw [e, e] at h
  have h2 := sum_inj l2 _ _ (by omega) (by omega) (by omega) (by omega) h
  have ha := a.toNat_lt
  have hbb := b.toNat_lt
  exact hne (UInt8.toNat_inj.1 (by omega))
/-- The sealed list. -/
def sealL (l : List UInt8) : List UInt8 := l ++ 35 :: Lib.itoa (sumFrom 7 l)
theorem sum_bd7 (l : List UInt8) : 0 ≤ sumFrom 7 l ∧ sumFrom 7 l ≤ 999978 := sumFrom_bd l 7 (by decide) (by decide)
theorem itoa_sum (l : List UInt8) : ∃ u : Nat, sumFrom 7 l = u ∧ u ≤ 999978 ∧ Lib.itoa (sumFrom 7 l) = Lib.decDigits u := by
  have h := sum_bd7 l
  obtain ⟨u, hu⟩ : ∃ u : Nat, sumFrom 7 l = (u : Int) := ⟨(sumFrom 7 l).toNat, by omega⟩
  exact ⟨u, hu, by omega, by rw [hu, Lib.itoa_nonneg]⟩
theorem no35 (l : List UInt8) : (35 : UInt8) ∉ Lib.itoa (sumFrom 7 l) := by
  obtain ⟨u, _, _, e⟩ := itoa_sum l
  rw [e]
  intro h
  have := decDigits_dig u 35 h
  unfold isDig at this
  exact absurd this.1 (by decide)
theorem itoa_sum_inj (l m : List UInt8) (h : Lib.itoa (sumFrom 7 l) = Lib.itoa (sumFrom 7 m)) : sumFrom 7 l = sumFrom 7 m := by
  obtain ⟨u, hu, _, e⟩ := itoa_sum l
  obtain ⟨v, hv, _, e'⟩ := itoa_sum m
  rw [e, e'] at h
  have h1 := val_digits u
  have h2 := val_digits v
  rw [h] at h1
  omega
theorem tw_stop (l r : List UInt8) (h : (35 : UInt8) ∉ l) : (l ++ 35 :: r).takeWhile (fun c => c != 35) = l := by
  induction l with
  | nil => simp
  | cons c l ih =>
    simp only [List.mem_cons, not_or] at h
    rw [List.cons_append, List.takeWhile_cons, ih h.2]
    have : (c != 35) = true := by simpa [bne_iff_ne] using fun e => h.1 e.symm
    simp [this]
theorem tw_none (l : List UInt8) (h : (35 : UInt8) ∉ l) : l.takeWhile (fun c => c != 35) = l := by
  induction l with
  | nil => rfl
  | cons c l ih =>
    simp only [List.mem_cons, not_or] at h
    rw [List.takeWhile_cons, ih h.2]
    have : (c != 35) = true := by simpa [bne_iff_ne] using fun e => h.1 e.symm
    simp [this]
theorem detect (l : List UInt8) (hl : (35 : UInt8) ∉ l) (k : Nat) (hk : k < (sealL l).length) (c : UInt8) (hc : c ≠ (sealL l)[k]) :
    sealL (((sealL l).set k c).takeWhile (fun c => c != 35)) ≠ (sealL l).set k c := by
  have hlen : (sealL l).length = l.length + 1 + (Lib.itoa (sumFrom 7 l)).length := by simp [sealL]; omega
  intro h
  by_cases h1 : k < l.length
  · have hx : (sealL l)[k] = l[k] := by unfold sealL at *; rw [List.getElem_append_left h1]
    have hs : (sealL l).set k c = (l.take k ++ c :: l.drop (k + 1)) ++ 35 :: Lib.itoa (sumFrom 7 l) := by
      unfold sealL
      rw [List.set_append_left _ _ h1, List.set_eq_take_append_cons_drop, if_pos h1]
    have ht : (35 : UInt8) ∉ l.take k := fun e => hl (List.mem_of_mem_take e)
    have hd : (35 : UInt8) ∉ l.drop (k + 1) := fun e => hl (List.mem_of_mem_drop e)
    by_cases h35 : c = 35
    · subst h35
      rw [hs, List.append_assoc, List.cons_append, tw_stop _ _ ht] at h
      unfold sealL at h
      have h2 := List.append_cancel_left h
      have h3 := (List.cons.inj h2).2
      have : (35 : UInt8) ∈ Lib.itoa (sumFrom 7 (l.take k)) := by rw [h3]; simp
      exact no35 _ this
    · have hno : (35 : UInt8) ∉ l.take k ++ c :: l.drop (k + 1) := by
        simp only [List.mem_append, List.mem_cons, not_or]
        exact ⟨ht, fun e => h35 e.symm, hd⟩
      rw [hs, tw_stop _ _ hno] at h
      unfold sealL at h
      have h2 := List.append_cancel_left h
      have h3 := itoa_sum_inj _ _ (List.cons.inj h2).2
      have e : l = l.take k ++ l[k] :: l.drop (k + 1) := by
        rw [← List.drop_eq_getElem_cons h1, List.take_append_drop]
      conv at h3 => rhs; rw [e]
      exact sum_change _ _ c l[k] (by rw [← hx]; exact hc) h3
  · by_cases h2 : k = l.length
    · subst h2
      have hx : (sealL l)[l.length] = 35 := by
        have e1 : (sealL l)[l.length]? = some 35 := by unfold sealL; rw [List.getElem?_append_right (Nat.le_refl _)]; simp
        rw [List.getElem?_eq_getElem hk] at e1
        exact Option.some.inj e1
      have hs : (sealL l).set l.length c = l ++ c :: Lib.itoa (sumFrom 7 l) := by
        unfold sealL
        rw [List.set_append_right _ _ (Nat.le_refl _), Nat.sub_self, List.set_cons_zero]
      rw [hx] at hc
      have hno : (35 : UInt8) ∉ l ++ c :: Lib.itoa (sumFrom 7 l) := by
        simp only [List.mem_append, List.mem_cons, not_or]
        exact ⟨hl, fun e => hc e.symm, no35 l⟩
      rw [hs, tw_none _ hno] at h
      have := congrArg List.length h
      unfold sealL at this
      simp at this
    · obtain ⟨j, rfl⟩ : ∃ j, k = l.length + 1 + j := ⟨k - l.length - 1, by omega⟩
      have hj : j < (Lib.itoa (sumFrom 7 l)).length := by omega
      have hs : (sealL l).set (l.length + 1 + j) c = l ++ 35 :: (Lib.itoa (sumFrom 7 l)).set j c := by
        unfold sealL
        rw [List.set_append_right _ _ (by omega), show l.length + 1 + j - l.length = j + 1 by omega, List.set_cons_succ]
      have hx : (sealL l)[l.length + 1 + j] = (Lib.itoa (sumFrom 7 l))[j] := by
        have e1 : (sealL l)[l.length + 1 + j]? = some (Lib.itoa (sumFrom 7 l))[j] := by
          unfold sealL
          rw [List.getElem?_append_right (by omega), show l.length + 1 + j - l.length = j + 1 by omega, List.getElem?_cons_succ, List.getElem?_eq_getElem hj]
        rw [List.getElem?_eq_getElem hk] at e1
        exact Option.some.inj e1
      rw [hs, tw_stop _ _ hl] at h
      unfold sealL at h
      have h3 := (List.cons.inj (List.append_cancel_left h)).2
      have h4 : (Lib.itoa (sumFrom 7 l))[j]? = some c := by
        rw [h3, List.getElem?_set]
        simp [hj]
      rw [List.getElem?_eq_getElem hj] at h4
      exact hc (by rw [hx]; exact (Option.some.inj h4).symm)
end Go.Proofs.YtcnpbhbhklmifaaDoor
