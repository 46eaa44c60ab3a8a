/-
  Rows of soundings that a call collects. Conditions: stated at each theorem.
-/
import Derived.Test.YtdmnkmdlochogaaQm
import Derived.Test.YtdmnkmdlochogaaTc
namespace Go.Proofs.Ytdmnkmdlochogaa
open Go.RowKit

def cellsS (L : List SD) : List Value := L.flatMap fun v => [.int .i64 v.id, .int .i64 v.x, .int .i64 v.y, .int .i64 v.dep, .int .i64 v.dbt]
theorem flat5 (f : SD → List Value) (hf : ∀ v, (f v).length = 5) : ∀ (L : List SD) (k i : Nat) (v : SD), L[k]? = some v → i < 5 → (L.flatMap f)[k * 5 + i]? = (f v)[i]? := by
  intro L
  induction L with
  | nil => intro k i v h; simp at h
  | cons a L ih =>
    intro k i v h hi
    rw [List.flatMap_cons]
    rcases k with _ | k
    · obtain rfl : a = v := by simpa using h
      rw [List.getElem?_append_left (by rw [hf]; omega), Nat.zero_mul, Nat.zero_add]
    · rw [List.getElem?_append_right (by rw [hf]; omega), hf, show (k + 1) * 5 + i - 5 = k * 5 + i by omega]
      exact ih k i v (by simpa using h) hi
theorem cellsS_len (L : List SD) : (cellsS L).length = L.length * 5 := by
  induction L with
  | nil => rfl
  | cons a L ih =>
    have : cellsS (a :: L) = [.int .i64 a.id, .int .i64 a.x, .int .i64 a.y, .int .i64 a.dep, .int .i64 a.dbt] ++ cellsS L := rfl
    rw [this, List.length_append, ih]
    simp only [List.length_cons, List.length_nil]; omega
theorem cellsS_snoc (L : List SD) (v : SD) : cellsS (L ++ [v]) = cellsS L ++ [.int .i64 v.id, .int .i64 v.x, .int .i64 v.y, .int .i64 v.dep, .int .i64 v.dbt] := by simp [cellsS]
theorem cellsS_at (L : List SD) (k i : Nat) (v : SD) (h : L[k]? = some v) (hi : i < 5) : (cellsS L)[k * 5 + i]? = [.int .i64 v.id, .int .i64 v.x, .int .i64 v.y, .int .i64 v.dep, .int .i64 v.dbt][i]? := flat5 _ (fun _ => rfl) L k i v h hi
theorem fillS_row {w : World} {B g n c : Nat} {L : List SD} (h : w.ownsRow B 75 5 (.slice (some ⟨g, 0, none⟩) n c) n (cellsS L)) (hn : L.length = n) : FillS w B g n n L := by
  have h0 := fillS_own (L := L) h
  refine ⟨h0.low, h0.lt, h0.free, h0.cells, fun k hk => ?_⟩
  obtain ⟨v, hv⟩ : ∃ v, L[k]? = some v := ⟨_, List.getElem?_eq_getElem (by omega)⟩
  have hc : ∀ i, i < 5 → w.cell? ⟨g, k * 5 + i, none⟩ = [.int .i64 v.id, .int .i64 v.x, .int .i64 v.y, .int .i64 v.dep, .int .i64 v.dbt][i]? := fun i hi => (h.cellAt (k * 5 + i) (by omega)).trans (cellsS_at L k i v hv hi)
  exact ⟨v, hv, hc 0 (by decide), hc 1 (by decide), hc 2 (by decide), hc 3 (by decide), hc 4 (by decide)⟩
/-- What a loop has collected is a row of the call's own. -/
theorem ownS_of_col {w w' : World} {v : Value} {n : Nat} {L : List SD} (h : Col w 75 5 v n (cellsS L) w') (hn : L.length = n) : ∃ A c, v = .slice A n c ∧ OwnS w' w.heap.size w'.heap.size A n L ∧ Below w.heap.size w w' := by
  obtain ⟨A, c, rfl⟩ := own_slice h.1
  rcases Nat.eq_zero_or_pos n with h0 | h0
  · exact ⟨A, c, rfl, ⟨hn, .inl h0⟩, h.2⟩
  · obtain ⟨g, hA⟩ : ∃ g : Nat, A = some ⟨g, 0, none⟩ := by
      rcases h.1.2 with ⟨_, h1⟩ | ⟨g, cap, cur, hv, _⟩
      · omega
      · exact ⟨g, by injection hv⟩
    subst hA
    have hF := fillS_row h.1 hn
    exact ⟨_, c, rfl, ⟨hn, .inr ⟨g, rfl, hF.lt, hF⟩⟩, h.2⟩
theorem five_new (w : World) (v : SD) (T : TypeId) : ∀ (j : Nat) (u : Value), ([.int .i64 v.id, .int .i64 v.x, .int .i64 v.y, .int .i64 v.dep, .int .i64 v.dbt] : List Value)[j]? = some u → (w.alloc (.cells #[.int .i64 v.id, .int .i64 v.x, .int .i64 v.y, .int .i64 v.dep, .int .i64 v.dbt] T)).cell? ((⟨w.heap.size, 0, none⟩ : Addr).add j) = some u := by
  intro j u hu
  have e : ((⟨w.heap.size, 0, none⟩ : Addr).add j) = ⟨w.heap.size, j, none⟩ := by
    unfold Addr.add
    split
    · simp
    · simp
  rw [e, World.cell?_alloc_new]
  simpa using hu
end Go.Proofs.Ytdmnkmdlochogaa
