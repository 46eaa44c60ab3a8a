/-
  Rows of rows of two numbers that a loop collects, where no argument lies in a block of its own. Conditions: stated at each theorem.
-/
import Derived.Test.YtllfmjnniagjfaaSj
import Derived.Test.YtllfmjnniagjfaaTc
namespace Go.Proofs.Ytllfmjnniagjfaa
open Go.RowKit

theorem infoInts : (Try.prog.info? 25).map (fun i => (i.zero, i.size, i.bytes)) = some (some (.slice none 0 0), 1, 24) := by kernel_rfl
def pf (L : List (Int × Int)) (k i : Nat) : Int := if i = 0 then (L.getD k (0, 0)).1 else (L.getD k (0, 0)).2
/-- Rows of two numbers and a bool, handed back. -/
def RowsPost (L : List (Int × Int)) (K : Bool) (w : World) (e : Ending) (w' : World) : Prop :=
  ∃ A c G, e = .returned (.tuple #[.slice A L.length c, .bool K]) ∧ RF w' w.heap.size w'.heap.size A L.length G (pf L) ∧ Below w.heap.size w w'
def sl (G : List Nat) : List Value := G.map fun g => .slice (some ⟨g, 0, none⟩) 2 2
def In (w : World) (B : Nat) (G : List Nat) (L : List (Int × Int)) : Prop :=
  G.length = L.length ∧ Apart G ∧ ∀ (k g : Nat) (p : Int × Int), G[k]? = some g → L[k]? = some p → B ≤ g ∧ Has w g [.int .i64 p.1, .int .i64 p.2]
def GpJ (w : World) (v : Value) (L : List (Int × Int)) (wr : World) : Prop := ∃ G, Col w 25 1 v L.length (sl G) wr ∧ In wr w.heap.size G L
theorem GpJ.next {w wr w1 : World} {v : Value} {L : List (Int × Int)} (h : GpJ w v L wr) (hb : Below wr.heap.size wr w1) : GpJ w v L w1 := by
  obtain ⟨G, hA, h1, h2, h3⟩ := h
  exact ⟨G, hA.next hb, h1, h2, fun k g p hg hp => ⟨(h3 k g p hg hp).1, (h3 k g p hg hp).2.next hb⟩⟩
theorem gp_startJ {w w2 : World} (hb : Below w.heap.size w w2) : GpJ w (.slice (some ⟨w2.heap.size, 0, none⟩) 0 0) [] (w2.alloc (.cells #[] 25)) :=
  ⟨[], col_start 25 1 hb, rfl, fun j k a h => by simp at h, fun k g p hg => by simp at hg⟩
theorem sl_at {G : List Nat} {k g : Nat} (h : G[k]? = some g) : (sl G)[k]? = some (.slice (some ⟨g, 0, none⟩) 2 2) := by unfold sl; rw [List.getElem?_map, h]; rfl
theorem row_cell_of {w : World} {B n : Nat} {T : TypeId} {v : Value} {G : List Nat} (h : w.ownsRow B T 1 v n (sl G)) {k gk : Nat} (hk : G[k]? = some gk) : ∃ g c, v = .slice (some ⟨g, 0, none⟩) n c ∧ B ≤ g ∧ g < w.heap.size ∧ v.ownBlock = some g ∧ w.cell? ⟨g, k, none⟩ = some (.slice (some ⟨gk, 0, none⟩) 2 2) := by
  have hl : G.length = n := by have := h.1; unfold sl at this; simpa using this
  have hkl : k < G.length := (List.getElem?_eq_some_iff.1 hk).1
  rcases h.2 with ⟨_, h0⟩ | ⟨g, cap, cur, hv, _⟩
  · omega
  subst hv
  refine ⟨g, cap, rfl, (h.lt g rfl).1, (h.lt g rfl).2, rfl, ?_⟩
  rw [h.cellAt k (by omega)]
  exact sl_at hk
theorem in_apart {w : World} {B B' n : Nat} {T : TypeId} {v : Value} {G : List Nat} {L : List (Int × Int)} (h : w.ownsRow B T 1 v n (sl G)) (hI : In w B' G L) {k g : Nat} (hg : G[k]? = some g) : v.ownBlock ≠ some g := fun e => by
  have h0 : 0 < G.length := Nat.lt_of_le_of_lt (Nat.zero_le k) (List.getElem?_eq_some_iff.1 hg).1
  obtain ⟨g0, hg0⟩ : ∃ g0, G[0]? = some g0 := ⟨_, List.getElem?_eq_getElem h0⟩
  obtain ⟨g', c, rfl, _, _, hv, hc⟩ := row_cell_of h hg0
  obtain rfl : g' = g := Option.some.inj (hv.symm.trans e)
  have hkl : k < L.length := by rw [← hI.1]; exact (List.getElem?_eq_some_iff.1 hg).1
  obtain ⟨p, hp⟩ : ∃ p, L[k]? = some p := ⟨_, List.getElem?_eq_getElem hkl⟩
  have h1 := (hI.2.2 k g' p hg hp).2.at_ 0 _ rfl
  rw [hc] at h1
  cases h1
theorem GpJ.step {w wr w5 : World} {v v' : Value} {L : List (Int × Int)} {G : List Nat} {x y : Int} {m : Nat} (hA : Col w 25 1 v L.length (sl G) wr) (hI : In wr w.heap.size G L)
    (ho : w5.ownsRow w.heap.size 25 1 v' m (sl G ++ [.slice (some ⟨wr.heap.size, 0, none⟩) 2 2])) (hm : m = (L ++ [(x, y)]).length)
    (hg : ((wr.alloc (.cells #[.int .i64 x, .int .i64 y] 3)).alloc (.cells #[.slice (some ⟨wr.heap.size, 0, none⟩) 2 2] 25)).grownBy w5 v.ownBlock) : GpJ w v' (L ++ [(x, y)]) w5 := by
  subst hm
  have hb1 : Below wr.heap.size wr (wr.alloc (.cells #[.int .i64 x, .int .i64 y] 3)) := (box1 (Below.refl _ _)).1
  have hh1 : Has (wr.alloc (.cells #[.int .i64 x, .int .i64 y] 3)) wr.heap.size [.int .i64 x, .int .i64 y] := (box1 (Below.refl _ _)).2
  have hsl : sl (G ++ [wr.heap.size]) = sl G ++ [.slice (some ⟨wr.heap.size, 0, none⟩) 2 2] := by simp [sl]
  refine ⟨G ++ [wr.heap.size], by rw [hsl]; exact (hA.next hb1).step ho hg, by simp [hI.1], ?_, ?_⟩
  · have hlt : ∀ (k a : Nat), G[k]? = some a → a < wr.heap.size := fun k a h => by
      have hkl : k < L.length := by rw [← hI.1]; exact (List.getElem?_eq_some_iff.1 h).1
      exact (hI.2.2 k a _ h (List.getElem?_eq_getElem hkl)).2.1
    have hcase : ∀ (k a : Nat), (G ++ [wr.heap.size])[k]? = some a → (G[k]? = some a) ∨ (k = G.length ∧ a = wr.heap.size) := fun k a h => by
      rw [List.getElem?_append] at h
      split at h
      · exact .inl h
      · rename_i hge
        have h2 := (List.getElem?_eq_some_iff.1 h).1
        simp only [List.length_singleton] at h2
        have e : k = G.length := by omega
        subst e
        rw [Nat.sub_self] at h
        exact .inr ⟨rfl, (Option.some.inj h).symm⟩
    intro j k a hj hk
    rcases hcase j a hj with h1 | ⟨h1, h2⟩ <;> rcases hcase k a hk with h3 | ⟨h3, h4⟩
    · exact hI.2.1 j k a h1 h3
    · have := hlt j a h1; omega
    · have := hlt k a h3; omega
    · omega
  · intro k g p hk hp
    rw [List.getElem?_append] at hk hp
    by_cases hlt : k < G.length
    · rw [if_pos hlt] at hk
      rw [if_pos (by rw [← hI.1]; exact hlt)] at hp
      obtain ⟨h1, h2⟩ := hI.2.2 k g p hk hp
      exact ⟨h1, has_grown ((h2.next hb1).alloc _) hg (fun e => in_apart hA.1 hI hk e.symm)⟩
    · rw [if_neg hlt] at hk
      rw [if_neg (by rw [← hI.1]; exact hlt)] at hp
      have h2 := (List.getElem?_eq_some_iff.1 hk).1
      simp only [List.length_singleton] at h2
      have e : k = G.length := by omega
      have e2 : k - L.length = 0 := by rw [← hI.1]; omega
      have e3 : k - G.length = 0 := by omega
      rw [e3] at hk
      rw [e2] at hp
      obtain rfl : wr.heap.size = g := Option.some.inj hk
      obtain rfl : (x, y) = p := Option.some.inj hp
      exact ⟨hA.2.size, has_grown (hh1.alloc _) hg (fun e => by have := (hA.1.lt _ e.symm).2; omega)⟩
theorem rows_of_gpJ {w w' : World} {v : Value} {L : List (Int × Int)} {K : Bool} (h : GpJ w v L w') : RowsPost L K w (.returned (.tuple #[v, .bool K])) w' := by
  obtain ⟨G, hA, hI⟩ := h
  obtain ⟨A, c, rfl⟩ := own_slice hA.1
  refine ⟨A, c, G, rfl, ⟨hI.1, hI.2.1, fun k hk => ?_⟩, hA.2⟩
  obtain ⟨gk, hgk⟩ : ∃ gk, G[k]? = some gk := ⟨_, List.getElem?_eq_getElem (by rw [hI.1]; exact hk)⟩
  obtain ⟨g, c', hv, h1, h2, hvb, hc⟩ := row_cell_of hA.1 hgk
  injection hv with hv _ _
  obtain ⟨h3, h4⟩ := hI.2.2 k gk _ hgk (List.getElem?_eq_getElem hk)
  refine ⟨g, gk, hv, by omega, h2, hgk, h3, h4.1, fun e => in_apart hA.1 hI hgk (by rw [hvb, e]), hc, fun i hi => ⟨gk, rfl, Nat.le_refl _, Nat.lt_succ_self _, ?_, h4.free i⟩⟩
  have e : L.getD k (0, 0) = L[k] := by simp [List.getD, hk]
  unfold pf
  rw [e]
  rcases i with _ | _ | i
  · exact h4.at_ 0 _ rfl
  · exact h4.at_ 1 _ rfl
  · omega
end Go.Proofs.Ytllfmjnniagjfaa
