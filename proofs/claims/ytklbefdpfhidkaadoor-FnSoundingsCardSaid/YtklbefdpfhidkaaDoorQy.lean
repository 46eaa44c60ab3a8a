/-
  Plain facts for laws.FnSoundings. Conditions: stated at each theorem.
-/
import Derived.Test.YtklbefdpfhidkaaDoorQd
import Derived.Test.YtklbefdpfhidkaaDoorPt
namespace Go.Proofs.YtklbefdpfhidkaaDoor
open Go.RowKit

theorem daOk_swap (L : List SD) (a b : Int) : daOk L a b = daOk L b a := by
  unfold daOk
  rw [Bool.and_assoc, Bool.and_assoc, Bool.and_comm (decide (0 ≤ fdS L a))]
theorem daV_swap (L : List SD) (a b : Int) : daV L a b = daV L b a := by
  unfold daV
  rw [daOk_swap, agB_swap]
theorem good8_lt {L : List SD} (h : Good8 L) : ∀ q p, p < q → q < L.length → (sdAt L p).id < (sdAt L q).id
  | 0, p, hp, _ => by omega
  | q + 1, p, hp, hq => by
    have h1 := h.asc q hq
    rcases Nat.lt_or_ge p q with h2 | h2
    · have := good8_lt h q p h2 (by omega)
      omega
    · obtain rfl : p = q := by omega
      exact h1
theorem fdS_at {L : List SD} (h : Good8 L) {p : Nat} {u : SD} (hu : L[p]? = some u) : fdS L u.id = p := by
  have hp := (List.getElem?_eq_some_iff.1 hu).1
  have he := sdAt_at hu
  refine fdK_hit hp (by rw [he]) (fun j hj => ?_)
  have := good8_lt h p j hj hp
  rw [he] at this
  omega
theorem al_is {L : List SD} (h : alOk L = true) : sdsB L = true ∧ 0 < L.length ∧ loK L L.length ≤ hiK L L.length := by
  unfold alOk agOk at h
  simp only [Bool.and_eq_true, decide_eq_true_eq] at h
  exact ⟨h.1.1, h.1.2, h.2⟩
theorem al_le {L : List SD} (h : alOk L = true) : alLo L ≤ alHi L := by
  unfold alLo alHi
  rw [if_pos h, if_pos h]
  exact (al_is h).2.2
theorem al_pair {L : List SD} (h : alOk L = true) {p q : Nat} {u v : SD} (hu : L[p]? = some u) (hv : L[q]? = some v) : daOk L u.id v.id = true ∧ daV L u.id v.id = true := by
  obtain ⟨h1, _, h3⟩ := al_is h
  have hg := good8_of h1
  obtain ⟨e1, e2⟩ := da_4 h1 (fdS_at hg hu) (fdS_at hg hv)
  exact ⟨e2, by rw [e1]; exact ag_all h3 (List.getElem?_eq_some_iff.1 hu).1 (List.getElem?_eq_some_iff.1 hv).1⟩
theorem told_one {v v' : SD} {r : Bool} (h : sdB v = true) (ht : Told (txtS v) v' r) : v' = v ∧ r = true := by
  rcases ht with ⟨rfl, h2, h3⟩ | ⟨_, _, hno⟩
  · refine ⟨?_, rfl⟩
    obtain ⟨t0, t1, t2, t3⟩ := txtS_cut v
    obtain ⟨b0, b1, b2, b3, b4⟩ := sd_nums h
    exact (told_parts h2 h3 t0 t1 t2 t3 (.inl ⟨rfl, num_itoT _ b0⟩) (.inl ⟨rfl, num_itoT _ b1⟩) (.inl ⟨rfl, num_itoT _ b2⟩) (.inl ⟨rfl, num_itoT _ b3⟩) (.inl ⟨rfl, num_itoT _ b4⟩)).2.2
  · exact absurd rfl (hno v h)
theorem told_back {t : ByteArray} {v : SD} {r : Bool} (h : Told t v r) (hr : r = true) : sdB v = true ∧ stT v = t := by
  rcases h with ⟨_, h2, h3⟩ | ⟨h1, _, _⟩
  · exact ⟨h2, by unfold stT; rw [h2, if_pos rfl]; exact h3⟩
  · rw [h1] at hr; cases hr
end Go.Proofs.YtklbefdpfhidkaaDoor
