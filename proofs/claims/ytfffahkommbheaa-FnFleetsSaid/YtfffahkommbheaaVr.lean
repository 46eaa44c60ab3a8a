/-
  Rows of craft that are appended in one piece. Conditions: stated at each theorem.
-/
import Derived.Test.YtfffahkommbheaaVm
import Derived.Test.YtfffahkommbheaaTc
namespace Go.Proofs.Ytfffahkommbheaa
open Go.RowKit

def cellsC (L : List CC) : List Value := L.flatMap fun v => [.int .i64 v.id, .string v.nm, .int .i64 v.dr, .int .i64 v.ah, .int .i64 v.be, .int .i64 v.sp, .int .i64 v.fu]
theorem flat7 (f : CC → List Value) (hf : ∀ v, (f v).length = 7) : ∀ (L : List CC) (k i : Nat) (v : CC), L[k]? = some v → i < 7 → (L.flatMap f)[k * 7 + i]? = (f v)[i]? := by
  intro L
  induction L with
  | nil => intro k i v h; simp at h
  | cons a L ih =>
    intro k i v h hi
    rw [List.flatMap_cons]
    rcases k with _ | k
    · obtain rfl : a = v := by simpa using h
      rw [List.getElem?_append_left (by rw [hf]; omega), Nat.zero_mul, Nat.zero_add]
    · rw [List.getElem?_append_right (by rw [hf]; omega), hf, show (k + 1) * 7 + i - 7 = k * 7 + i by omega]
      exact ih k i v (by simpa using h) hi
theorem cellsC_len (L : List CC) : (cellsC L).length = L.length * 7 := by
  induction L with
  | nil => rfl
  | cons a L ih =>
    have : cellsC (a :: L) = [.int .i64 a.id, .string a.nm, .int .i64 a.dr, .int .i64 a.ah, .int .i64 a.be, .int .i64 a.sp, .int .i64 a.fu] ++ cellsC L := rfl
    rw [this, List.length_append, ih]
    simp only [List.length_cons, List.length_nil]; omega
theorem cellsC_at (L : List CC) (k i : Nat) (v : CC) (h : L[k]? = some v) (hi : i < 7) : (cellsC L)[k * 7 + i]? = [.int .i64 v.id, .string v.nm, .int .i64 v.dr, .int .i64 v.ah, .int .i64 v.be, .int .i64 v.sp, .int .i64 v.fu][i]? := flat7 _ (fun _ => rfl) L k i v h hi
theorem cellsC_one (L : List CC) : ∀ u ∈ cellsC L, u.oneCell' = true := by
  intro u hu
  simp only [cellsC, List.mem_flatMap, List.mem_cons, List.not_mem_nil, or_false] at hu
  obtain ⟨p, _, rfl | rfl | rfl | rfl | rfl | rfl | rfl⟩ := hu <;> rfl
theorem fillC_row {w : World} {B g n c : Nat} {L : List CC} (h : w.ownsRow B 31 7 (.slice (some ⟨g, 0, none⟩) n c) n (cellsC L)) (hn : L.length = n) : FillC w B g n n L := by
  have h0 := fillC_own (L := L) h
  refine ⟨h0.low, h0.lt, h0.free, h0.cells, fun k hk => ?_⟩
  obtain ⟨v, hv⟩ : ∃ v, L[k]? = some v := ⟨_, List.getElem?_eq_getElem (by omega)⟩
  have hc : ∀ i, i < 7 → w.cell? ⟨g, k * 7 + i, none⟩ = [.int .i64 v.id, .string v.nm, .int .i64 v.dr, .int .i64 v.ah, .int .i64 v.be, .int .i64 v.sp, .int .i64 v.fu][i]? := fun i hi => (h.cellAt (k * 7 + i) (by omega)).trans (cellsC_at L k i v hv hi)
  exact ⟨v, hv, hc 0 (by decide), hc 1 (by decide), hc 2 (by decide), hc 3 (by decide), hc 4 (by decide), hc 5 (by decide), hc 6 (by decide)⟩
theorem crafts_cells {w : World} {B n : Nat} {A : Option Addr} {L : List CC} (h : Crafts w B A n L) (h0 : 0 < n) : ∃ a, A = some a ∧ ∀ j u, (cellsC L)[j]? = some u → w.cell? (a.add j) = some u := by
  obtain ⟨b, o, v, hA, _⟩ := h.2 0 h0
  refine ⟨⟨b, o, none⟩, hA, fun j u hu => ?_⟩
  have hj := (List.getElem?_eq_some_iff.1 hu).1
  rw [cellsC_len, h.1] at hj
  obtain ⟨b', o', v, hA', _, hv, _, c0, c1, c2, c3, c4, c5, c6⟩ := h.2 (j / 7) (by omega)
  obtain ⟨rfl, rfl⟩ : b = b' ∧ o = o' := by rw [hA] at hA'; injection hA' with h; injection h with h h'; exact ⟨h, h'⟩
  have he := cellsC_at L (j / 7) (j % 7) v hv (Nat.mod_lt _ (by decide))
  rw [show j / 7 * 7 + j % 7 = j by omega, hu] at he
  have hw : w.cell? ((⟨b, o, none⟩ : Addr).add j) = w.cell? ⟨b, o + (j / 7 * 7 + j % 7), none⟩ := by rw [show j / 7 * 7 + j % 7 = j by omega]; unfold Addr.add; split <;> first | rfl | (rename_i h; rw [h, Nat.add_zero])
  rw [hw, he, ← Nat.add_assoc]
  obtain ⟨r, hr⟩ : ∃ r, r = j % 7 := ⟨_, rfl⟩
  have hr7 : r < 7 := by rw [hr]; exact Nat.mod_lt _ (by decide)
  rw [← hr]
  match r, hr7 with
  | 0, _ => exact c0
  | 1, _ => exact c1
  | 2, _ => exact c2
  | 3, _ => exact c3
  | 4, _ => exact c4
  | 5, _ => exact c5
  | 6, _ => exact c6
/-- The craft with other fuel. -/
def fuC (v : CC) (x : Int) : CC := ⟨v.id, v.nm, v.dr, v.ah, v.be, v.sp, x⟩
theorem FillC.setFu {w : World} {B g n i : Nat} {L : List CC} {v : CC} (h : FillC w B g n n L) (hi : i < n) (hv : L[i]? = some v) (x : Int) : FillC (w.setCell ⟨g, i * 7 + 6, none⟩ (.int .i64 x)) B g n n (L.set i (fuC v x)) := by
  have ho : ∀ q, q ≠ i * 7 + 6 → (w.setCell ⟨g, i * 7 + 6, none⟩ (.int .i64 x)).cell? ⟨g, q, none⟩ = w.cell? ⟨g, q, none⟩ := fun q hq => World.cell?_setCell_other _ _ _ _ (fun h => by injection h with _ h2; exact hq h2.symm)
  have hil := (List.getElem?_eq_some_iff.1 hv).1
  refine ⟨h.low, by simpa [World.setCell] using h.lt, fun j => (World.frozen?_setCell _ _ _ _).trans (h.free j), fun j hj => ?_, fun j hj => ?_⟩
  · obtain ⟨u', hu'⟩ := h.cells j hj
    by_cases e : j = i * 7 + 6
    · subst e; exact ⟨_, World.cell?_setCell_same _ _ _ hu'⟩
    · exact ⟨u', (ho j e).trans hu'⟩
  · obtain ⟨v', hv', h7⟩ := h.done j hj
    by_cases e : j = i
    · subst e
      obtain rfl : v = v' := Option.some.inj (hv.symm.trans hv')
      obtain ⟨c0, c1, c2, c3, c4, c5, c6⟩ := h7
      exact ⟨fuC v x, by rw [List.getElem?_set_self hil], (ho _ (by omega)).trans c0, (ho _ (by omega)).trans c1, (ho _ (by omega)).trans c2, (ho _ (by omega)).trans c3, (ho _ (by omega)).trans c4, (ho _ (by omega)).trans c5, World.cell?_setCell_same _ _ _ c6⟩
    · exact ⟨v', by rw [List.getElem?_set_ne (by omega)]; exact hv', at7_other h7 fun q h1 h2 => ho q (by omega)⟩
theorem FillC.setC {w : World} {B g n i : Nat} {L : List CC} (h : FillC w B g n n L) (hi : i < n) (hl : L.length = n) (x : CC) : FillC (setL w g (i * 7) [.int .i64 x.id, .string x.nm, .int .i64 x.dr, .int .i64 x.ah, .int .i64 x.be, .int .i64 x.sp, .int .i64 x.fu]) B g n n (L.set i x) := by
  have hat := setL_at [.int .i64 x.id, .string x.nm, .int .i64 x.dr, .int .i64 x.ah, .int .i64 x.be, .int .i64 x.sp, .int .i64 x.fu] w g (i * 7) (fun j hj => h.cells _ (by simp only [List.length_cons, List.length_nil] at hj; omega))
  have hz := setL_size [.int .i64 x.id, .string x.nm, .int .i64 x.dr, .int .i64 x.ah, .int .i64 x.be, .int .i64 x.sp, .int .i64 x.fu] w g (i * 7)
  refine ⟨h.low, by rw [hz]; exact h.lt, fun j => (setL_frozen [.int .i64 x.id, .string x.nm, .int .i64 x.dr, .int .i64 x.ah, .int .i64 x.be, .int .i64 x.sp, .int .i64 x.fu] w g (i * 7) _).trans (h.free j), fun j hj => ?_, fun j hj => ?_⟩
  · by_cases e : j < i * 7 ∨ i * 7 + 7 ≤ j
    · obtain ⟨u', hu'⟩ := h.cells j hj
      exact ⟨u', (setL_other [.int .i64 x.id, .string x.nm, .int .i64 x.dr, .int .i64 x.ah, .int .i64 x.be, .int .i64 x.sp, .int .i64 x.fu] w g (i * 7) g j (by simp only [List.length_cons, List.length_nil]; omega)).trans hu'⟩
    · obtain ⟨r, hr, rfl⟩ : ∃ r, r < 7 ∧ j = i * 7 + r := ⟨j - i * 7, by omega, by omega⟩
      obtain ⟨u, hu⟩ : ∃ u : Value, ([.int .i64 x.id, .string x.nm, .int .i64 x.dr, .int .i64 x.ah, .int .i64 x.be, .int .i64 x.sp, .int .i64 x.fu] : List Value)[r]? = some u := ⟨_, List.getElem?_eq_getElem (by simpa using hr)⟩
      exact ⟨u, hat r u hu⟩
  · obtain ⟨u', hv', h7⟩ := h.done j hj
    by_cases e : j = i
    · subst e
      exact ⟨x, by rw [List.getElem?_set_self (by omega)], hat 0 _ rfl, hat 1 _ rfl, hat 2 _ rfl, hat 3 _ rfl, hat 4 _ rfl, hat 5 _ rfl, hat 6 _ rfl⟩
    · exact ⟨u', by rw [List.getElem?_set_ne (by omega)]; exact hv', at7_other h7 fun q h1 h2 => setL_other [.int .i64 x.id, .string x.nm, .int .i64 x.dr, .int .i64 x.ah, .int .i64 x.be, .int .i64 x.sp, .int .i64 x.fu] w g (i * 7) g q (by simp only [List.length_cons, List.length_nil]; omega)⟩
theorem row_fill {w : World} {B n : Nat} {v : Value} {L : List CC} (h : w.ownsRow B 31 7 v n (cellsC L)) (h0 : 0 < n) (hn : L.length = n) : ∃ g c, v = .slice (some ⟨g, 0, none⟩) n c ∧ FillC w B g n n L := by
  have h2 := h.2
  rcases h2 with ⟨_, h1⟩ | ⟨g, cap, cur, rfl, _⟩
  · omega
  · exact ⟨g, cap, rfl, fillC_row h hn⟩
theorem Col.grow {w w1 w2 : World} {e : TypeId} {z n m : Nat} {v v' : Value} {xs ys : List Value} (h : Col w e z v n xs w1)
    (ho : w2.ownsRow w.heap.size e z v' m ys) (hg : w1.grownBy w2 v.ownBlock) : Col w e z v' m ys w2 :=
  ⟨ho, h.2.grown hg h.2.size (fun j hj => (h.1.lt j hj).1)⟩
end Go.Proofs.Ytfffahkommbheaa
