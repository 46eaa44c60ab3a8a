/-
  Rows of lines that a call collects. Conditions: stated at each theorem.
-/
import Derived.Test.YtlakdlghkniegaaXm
import Derived.Test.YtlakdlghkniegaaTc
namespace Go.Proofs.Ytlakdlghkniegaa
open Go.RowKit

def cellsSX (L : List XD) : List Value := L.flatMap fun v => [.int .i64 v.ln, .int .i64 v.cr, .int .i64 v.mn, .int .i64 v.ck]
theorem flat5X (f : XD → List Value) (hf : ∀ v, (f v).length = 4) : ∀ (L : List XD) (k i : Nat) (v : XD), L[k]? = some v → i < 4 → (L.flatMap f)[k * 4 + i]? = (f v)[i]? := by
  intro L
  induction L with
  | nil => intro k i v h; simp at h
  | cons a L ih =>
    intro k i v h hi
    rw [List.flatMap_cons]
    rcases k with _ | k
    · obtain rfl : a = v := by simpa using h
      rw [List.getElem?_append_left (by rw [hf]; omega), Nat.zero_mul, Nat.zero_add]
    · rw [List.getElem?_append_right (by rw [hf]; omega), hf, show (k + 1) * 4 + i - 4 = k * 4 + i by omega]
      exact ih k i v (by simpa using h) hi
theorem cellsS_lenX (L : List XD) : (cellsSX L).length = L.length * 4 := by
  induction L with
  | nil => rfl
  | cons a L ih =>
    have : cellsSX (a :: L) = [.int .i64 a.ln, .int .i64 a.cr, .int .i64 a.mn, .int .i64 a.ck] ++ cellsSX L := rfl
    rw [this, List.length_append, ih]
    simp only [List.length_cons, List.length_nil]; omega
theorem cellsS_snocX (L : List XD) (v : XD) : cellsSX (L ++ [v]) = cellsSX L ++ [.int .i64 v.ln, .int .i64 v.cr, .int .i64 v.mn, .int .i64 v.ck] := by simp [cellsSX]
theorem cellsS_atX (L : List XD) (k i : Nat) (v : XD) (h : L[k]? = some v) (hi : i < 4) : (cellsSX L)[k * 4 + i]? = [.int .i64 v.ln, .int .i64 v.cr, .int .i64 v.mn, .int .i64 v.ck][i]? := flat5X _ (fun _ => rfl) L k i v h hi
theorem fillS_rowX {w : World} {B g n c : Nat} {L : List XD} (h : w.ownsRow B 45 4 (.slice (some ⟨g, 0, none⟩) n c) n (cellsSX L)) (hn : L.length = n) : FillSX w B g n n L := by
  have h0 := fillS_ownX (L := L) h
  refine ⟨h0.low, h0.lt, h0.free, h0.cells, fun k hk => ?_⟩
  obtain ⟨v, hv⟩ : ∃ v, L[k]? = some v := ⟨_, List.getElem?_eq_getElem (by omega)⟩
  have hc : ∀ i, i < 4 → w.cell? ⟨g, k * 4 + i, none⟩ = [.int .i64 v.ln, .int .i64 v.cr, .int .i64 v.mn, .int .i64 v.ck][i]? := fun i hi => (h.cellAt (k * 4 + i) (by omega)).trans (cellsS_atX L k i v hv hi)
  exact ⟨v, hv, hc 0 (by decide), hc 1 (by decide), hc 2 (by decide), hc 3 (by decide)⟩
/-- What a loop has collected is a row of the call's own. -/
theorem ownS_of_colX {w w' : World} {v : Value} {n : Nat} {L : List XD} (h : Col w 45 4 v n (cellsSX L) w') (hn : L.length = n) : ∃ A c, v = .slice A n c ∧ OwnSX w' w.heap.size w'.heap.size A n L ∧ Below w.heap.size w w' := by
  obtain ⟨A, c, rfl⟩ := own_slice h.1
  rcases Nat.eq_zero_or_pos n with h0 | h0
  · exact ⟨A, c, rfl, ⟨hn, .inl h0⟩, h.2⟩
  · obtain ⟨g, hA⟩ : ∃ g : Nat, A = some ⟨g, 0, none⟩ := by
      rcases h.1.2 with ⟨_, h1⟩ | ⟨g, cap, cur, hv, _⟩
      · omega
      · exact ⟨g, by injection hv⟩
    subst hA
    have hF := fillS_rowX h.1 hn
    exact ⟨_, c, rfl, ⟨hn, .inr ⟨g, rfl, hF.lt, hF⟩⟩, h.2⟩
theorem five_newX (w : World) (v : XD) (T : TypeId) : ∀ (j : Nat) (u : Value), ([.int .i64 v.ln, .int .i64 v.cr, .int .i64 v.mn, .int .i64 v.ck] : List Value)[j]? = some u → (w.alloc (.cells #[.int .i64 v.ln, .int .i64 v.cr, .int .i64 v.mn, .int .i64 v.ck] T)).cell? ((⟨w.heap.size, 0, none⟩ : Addr).add j) = some u := by
  intro j u hu
  have e : ((⟨w.heap.size, 0, none⟩ : Addr).add j) = ⟨w.heap.size, j, none⟩ := by
    unfold Addr.add
    split
    · simp
    · simp
  rw [e, World.cell?_alloc_new]
  simpa using hu
end Go.Proofs.Ytlakdlghkniegaa
