/-
  Rows of lines that a call collects. Conditions: stated at each theorem.
-/
import Derived.Test.YtllfmjnniagjfaaJm
import Derived.Test.YtllfmjnniagjfaaTc
namespace Go.Proofs.Ytllfmjnniagjfaa
open Go.RowKit

def cellsSJ (L : List PS) : List Value := L.flatMap fun v => [.int .i64 v.ln, .int .i64 v.bg, .int .i64 v.en, .int .i64 v.pi, .int .i64 v.bd, .int .i64 v.co]
theorem flat5J (f : PS → List Value) (hf : ∀ v, (f v).length = 6) : ∀ (L : List PS) (k i : Nat) (v : PS), L[k]? = some v → i < 6 → (L.flatMap f)[k * 6 + i]? = (f v)[i]? := by
  intro L
  induction L with
  | nil => intro k i v h; simp at h
  | cons a L ih =>
    intro k i v h hi
    rw [List.flatMap_cons]
    rcases k with _ | k
    · obtain rfl : a = v := by simpa using h
      rw [List.getElem?_append_left (by rw [hf]; omega), Nat.zero_mul, Nat.zero_add]
    · rw [List.getElem?_append_right (by rw [hf]; omega), hf, show (k + 1) * 6 + i - 6 = k * 6 + i by omega]
      exact ih k i v (by simpa using h) hi
theorem cellsS_lenJ (L : List PS) : (cellsSJ L).length = L.length * 6 := by
  induction L with
  | nil => rfl
  | cons a L ih =>
    have : cellsSJ (a :: L) = [.int .i64 a.ln, .int .i64 a.bg, .int .i64 a.en, .int .i64 a.pi, .int .i64 a.bd, .int .i64 a.co] ++ cellsSJ L := rfl
    rw [this, List.length_append, ih]
    simp only [List.length_cons, List.length_nil]; omega
theorem cellsS_snocJ (L : List PS) (v : PS) : cellsSJ (L ++ [v]) = cellsSJ L ++ [.int .i64 v.ln, .int .i64 v.bg, .int .i64 v.en, .int .i64 v.pi, .int .i64 v.bd, .int .i64 v.co] := by simp [cellsSJ]
theorem cellsS_atJ (L : List PS) (k i : Nat) (v : PS) (h : L[k]? = some v) (hi : i < 6) : (cellsSJ L)[k * 6 + i]? = [.int .i64 v.ln, .int .i64 v.bg, .int .i64 v.en, .int .i64 v.pi, .int .i64 v.bd, .int .i64 v.co][i]? := flat5J _ (fun _ => rfl) L k i v h hi
theorem fillS_rowJ {w : World} {B g n c : Nat} {L : List PS} (h : w.ownsRow B 40 6 (.slice (some ⟨g, 0, none⟩) n c) n (cellsSJ L)) (hn : L.length = n) : FillSJ w B g n n L := by
  have h0 := fillS_ownJ (L := L) h
  refine ⟨h0.low, h0.lt, h0.free, h0.cells, fun k hk => ?_⟩
  obtain ⟨v, hv⟩ : ∃ v, L[k]? = some v := ⟨_, List.getElem?_eq_getElem (by omega)⟩
  have hc : ∀ i, i < 6 → w.cell? ⟨g, k * 6 + i, none⟩ = [.int .i64 v.ln, .int .i64 v.bg, .int .i64 v.en, .int .i64 v.pi, .int .i64 v.bd, .int .i64 v.co][i]? := fun i hi => (h.cellAt (k * 6 + i) (by omega)).trans (cellsS_atJ L k i v hv hi)
  exact ⟨v, hv, hc 0 (by decide), hc 1 (by decide), hc 2 (by decide), hc 3 (by decide), hc 4 (by decide), hc 5 (by decide)⟩
/-- What a loop has collected is a row of the call's own. -/
theorem ownS_of_colJ {w w' : World} {v : Value} {n : Nat} {L : List PS} (h : Col w 40 6 v n (cellsSJ L) w') (hn : L.length = n) : ∃ A c, v = .slice A n c ∧ OwnSJ w' w.heap.size w'.heap.size A n L ∧ Below w.heap.size w w' := by
  obtain ⟨A, c, rfl⟩ := own_slice h.1
  rcases Nat.eq_zero_or_pos n with h0 | h0
  · exact ⟨A, c, rfl, ⟨hn, .inl h0⟩, h.2⟩
  · obtain ⟨g, hA⟩ : ∃ g : Nat, A = some ⟨g, 0, none⟩ := by
      rcases h.1.2 with ⟨_, h1⟩ | ⟨g, cap, cur, hv, _⟩
      · omega
      · exact ⟨g, by injection hv⟩
    subst hA
    have hF := fillS_rowJ h.1 hn
    exact ⟨_, c, rfl, ⟨hn, .inr ⟨g, rfl, hF.lt, hF⟩⟩, h.2⟩
theorem five_newJ (w : World) (v : PS) (T : TypeId) : ∀ (j : Nat) (u : Value), ([.int .i64 v.ln, .int .i64 v.bg, .int .i64 v.en, .int .i64 v.pi, .int .i64 v.bd, .int .i64 v.co] : List Value)[j]? = some u → (w.alloc (.cells #[.int .i64 v.ln, .int .i64 v.bg, .int .i64 v.en, .int .i64 v.pi, .int .i64 v.bd, .int .i64 v.co] T)).cell? ((⟨w.heap.size, 0, none⟩ : Addr).add j) = some u := by
  intro j u hu
  have e : ((⟨w.heap.size, 0, none⟩ : Addr).add j) = ⟨w.heap.size, j, none⟩ := by
    unfold Addr.add
    split
    · simp
    · simp
  rw [e, World.cell?_alloc_new]
  simpa using hu
end Go.Proofs.Ytllfmjnniagjfaa
