/-
  Rows of lines that a call collects. Conditions: stated at each theorem.
-/
import Derived.Test.YtdmnkmdlochogabLm
import Derived.Test.YtdmnkmdlochogabTc
namespace Go.Proofs.Ytdmnkmdlochogab
open Go.RowKit

def cellsSN (L : List LN) : List Value := L.flatMap fun v => [.int .i64 v.id, .int .i64 v.y, .int .i64 v.fr, .int .i64 v.to, .int .i64 v.sw]
theorem flat5N (f : LN → List Value) (hf : ∀ v, (f v).length = 5) : ∀ (L : List LN) (k i : Nat) (v : LN), L[k]? = some v → i < 5 → (L.flatMap f)[k * 5 + i]? = (f v)[i]? := by
  intro L
  induction L with
  | nil => intro k i v h; simp at h
  | cons a L ih =>
    intro k i v h hi
    rw [List.flatMap_cons]
    rcases k with _ | k
    · obtain rfl : a = v := by simpa using h
      rw [List.getElem?_append_left (by rw [hf]; omega), Nat.zero_mul, Nat.zero_add]
    · rw [List.getElem?_append_right (by rw [hf]; omega), hf, show (k + 1) * 5 + i - 5 = k * 5 + i by omega]
      exact ih k i v (by simpa using h) hi
theorem cellsS_lenN (L : List LN) : (cellsSN L).length = L.length * 5 := by
  induction L with
  | nil => rfl
  | cons a L ih =>
    have : cellsSN (a :: L) = [.int .i64 a.id, .int .i64 a.y, .int .i64 a.fr, .int .i64 a.to, .int .i64 a.sw] ++ cellsSN L := rfl
    rw [this, List.length_append, ih]
    simp only [List.length_cons, List.length_nil]; omega
theorem cellsS_snocN (L : List LN) (v : LN) : cellsSN (L ++ [v]) = cellsSN L ++ [.int .i64 v.id, .int .i64 v.y, .int .i64 v.fr, .int .i64 v.to, .int .i64 v.sw] := by simp [cellsSN]
theorem cellsS_atN (L : List LN) (k i : Nat) (v : LN) (h : L[k]? = some v) (hi : i < 5) : (cellsSN L)[k * 5 + i]? = [.int .i64 v.id, .int .i64 v.y, .int .i64 v.fr, .int .i64 v.to, .int .i64 v.sw][i]? := flat5N _ (fun _ => rfl) L k i v h hi
theorem fillS_rowN {w : World} {B g n c : Nat} {L : List LN} (h : w.ownsRow B 34 5 (.slice (some ⟨g, 0, none⟩) n c) n (cellsSN L)) (hn : L.length = n) : FillSN w B g n n L := by
  have h0 := fillS_ownN (L := L) h
  refine ⟨h0.low, h0.lt, h0.free, h0.cells, fun k hk => ?_⟩
  obtain ⟨v, hv⟩ : ∃ v, L[k]? = some v := ⟨_, List.getElem?_eq_getElem (by omega)⟩
  have hc : ∀ i, i < 5 → w.cell? ⟨g, k * 5 + i, none⟩ = [.int .i64 v.id, .int .i64 v.y, .int .i64 v.fr, .int .i64 v.to, .int .i64 v.sw][i]? := fun i hi => (h.cellAt (k * 5 + i) (by omega)).trans (cellsS_atN L k i v hv hi)
  exact ⟨v, hv, hc 0 (by decide), hc 1 (by decide), hc 2 (by decide), hc 3 (by decide), hc 4 (by decide)⟩
/-- What a loop has collected is a row of the call's own. -/
theorem ownS_of_colN {w w' : World} {v : Value} {n : Nat} {L : List LN} (h : Col w 34 5 v n (cellsSN L) w') (hn : L.length = n) : ∃ A c, v = .slice A n c ∧ OwnSN w' w.heap.size w'.heap.size A n L ∧ Below w.heap.size w w' := by
  obtain ⟨A, c, rfl⟩ := own_slice h.1
  rcases Nat.eq_zero_or_pos n with h0 | h0
  · exact ⟨A, c, rfl, ⟨hn, .inl h0⟩, h.2⟩
  · obtain ⟨g, hA⟩ : ∃ g : Nat, A = some ⟨g, 0, none⟩ := by
      rcases h.1.2 with ⟨_, h1⟩ | ⟨g, cap, cur, hv, _⟩
      · omega
      · exact ⟨g, by injection hv⟩
    subst hA
    have hF := fillS_rowN h.1 hn
    exact ⟨_, c, rfl, ⟨hn, .inr ⟨g, rfl, hF.lt, hF⟩⟩, h.2⟩
theorem five_newN (w : World) (v : LN) (T : TypeId) : ∀ (j : Nat) (u : Value), ([.int .i64 v.id, .int .i64 v.y, .int .i64 v.fr, .int .i64 v.to, .int .i64 v.sw] : List Value)[j]? = some u → (w.alloc (.cells #[.int .i64 v.id, .int .i64 v.y, .int .i64 v.fr, .int .i64 v.to, .int .i64 v.sw] T)).cell? ((⟨w.heap.size, 0, none⟩ : Addr).add j) = some u := by
  intro j u hu
  have e : ((⟨w.heap.size, 0, none⟩ : Addr).add j) = ⟨w.heap.size, j, none⟩ := by
    unfold Addr.add
    split
    · simp
    · simp
  rw [e, World.cell?_alloc_new]
  simpa using hu
end Go.Proofs.Ytdmnkmdlochogab
