/-
  What the laws do with craft: contracts of laws.szCraft, szCraftS, toCraft, toCraftS, eqCraft, eqCraftS over this translation. Conditions: stated at each theorem.
-/
import Derived.Test.YtdmnkmdlochogaaSk
import Derived.Test.YtdmnkmdlochogaaVo
namespace Go.Proofs.Ytdmnkmdlochogaa
open Go.RowKit

def szCL : List CC → Nat
  | [] => 0
  | v :: t => v.nm.size + szCL t
theorem szCL_snoc (L : List CC) (v : CC) : szCL (L ++ [v]) = szCL L + v.nm.size := by
  induction L with
  | nil => simp [szCL]
  | cons x t ih => simp only [List.cons_append, szCL, ih]; omega
theorem szCL_take {L : List CC} {k : Nat} {v : CC} (h : L[k]? = some v) : szCL (L.take (k + 1)) = szCL (L.take k) + v.nm.size := by
  obtain ⟨hk, rfl⟩ := List.getElem?_eq_some_iff.1 h
  rw [List.take_succ_eq_append_getElem hk, szCL_snoc]
theorem szCL_le (L : List CC) (k : Nat) : szCL (L.take k) ≤ szCL L := by
  induction L generalizing k with
  | nil => simp [szCL]
  | cons x t ih =>
    cases k with
    | zero => simp [szCL]
    | succ k => have := ih k; simp only [List.take_succ_cons, szCL]; omega
theorem szCL_at {L : List CC} {k : Nat} {v : CC} (h : L[k]? = some v) : v.nm.size ≤ szCL L := by
  have h1 := szCL_take h
  have h2 := szCL_le L (k + 1)
  omega
/-- Block g holds n craft, the first k of which are those of L; all may be written. -/
structure FillC (w : World) (B g n k : Nat) (L : List CC) : Prop where
  low : B ≤ g
  lt : g < w.heap.size
  free : ∀ j, w.frozen? ⟨g, j, none⟩ = false
  cells : ∀ j, j < n * 7 → ∃ u, w.cell? ⟨g, j, none⟩ = some u
  done : ∀ j, j < k → ∃ v, L[j]? = some v ∧ At7 w g (j * 7) v
theorem FillC.on {w w' : World} {B B' g n k : Nat} {L : List CC} (h : FillC w B g n k L) (hb : Below B' w w') (hg : g < B') (hs : w.heap.size ≤ w'.heap.size) : FillC w' B g n k L :=
  ⟨h.low, Nat.lt_of_lt_of_le h.lt hs, fun j => (hb.frozen (p := ⟨g, j, none⟩) hg).trans (h.free j), fun j hj => by
    obtain ⟨u, hu⟩ := h.cells j hj
    exact ⟨u, (hb.cell (p := ⟨g, j, none⟩) hg).trans hu⟩, fun j hj => by
    obtain ⟨v, hv, h7⟩ := h.done j hj
    exact ⟨v, hv, h7.on hb hg⟩⟩
theorem FillC.next {w w' : World} {B g n k : Nat} {L : List CC} (h : FillC w B g n k L) (hb : Below w.heap.size w w') : FillC w' B g n k L := h.on hb h.lt hb.size
theorem FillC.wide {w : World} {B B' g n k : Nat} {L : List CC} (h : FillC w B g n k L) (hB : B' ≤ B) : FillC w B' g n k L := ⟨Nat.le_trans hB h.low, h.lt, h.free, h.cells, h.done⟩
theorem FillC.bare {w : World} {B g n k : Nat} {L : List CC} (h : FillC w B g n k L) (L' : List CC) : FillC w B g n 0 L' := ⟨h.low, h.lt, h.free, h.cells, fun j hj => absurd hj (by omega)⟩
theorem at7_other {w w' : World} {b o : Nat} {v : CC} (h : At7 w b o v) (he : ∀ q, o ≤ q → q < o + 7 → w'.cell? ⟨b, q, none⟩ = w.cell? ⟨b, q, none⟩) : At7 w' b o v := by
  obtain ⟨h0, h1, h2, h3, h4, h5, h6⟩ := h
  exact ⟨(he _ (by omega) (by omega)).trans h0, (he _ (by omega) (by omega)).trans h1, (he _ (by omega) (by omega)).trans h2, (he _ (by omega) (by omega)).trans h3, (he _ (by omega) (by omega)).trans h4, (he _ (by omega) (by omega)).trans h5, (he _ (by omega) (by omega)).trans h6⟩
theorem FillC.more {w : World} {B g n k : Nat} {L : List CC} (h : FillC w B g n k L) {v : CC} (hl : L[k]? = some v) (h7 : At7 w g (k * 7) v) : FillC w B g n (k + 1) L :=
  ⟨h.low, h.lt, h.free, h.cells, fun j hj => by
    rcases Nat.lt_or_ge j k with h1 | h1
    · exact h.done j h1
    · obtain rfl : j = k := by omega
      exact ⟨v, hl, h7⟩⟩
theorem FillC.put {w : World} {B g n k : Nat} {L : List CC} (h : FillC w B g n k L) (i : Nat) (hi : k * 7 ≤ i) (u : Value) : FillC (w.setCell ⟨g, i, none⟩ u) B g n k L := by
  refine ⟨h.low, by simpa [World.setCell] using h.lt, fun j => (World.frozen?_setCell _ _ _ _).trans (h.free j), fun j hj => ?_, fun j hj => ?_⟩
  · obtain ⟨u', hu'⟩ := h.cells j hj
    by_cases e : j = i
    · subst e; exact ⟨u, World.cell?_setCell_same _ _ _ hu'⟩
    · exact ⟨u', (World.cell?_setCell_other _ _ _ _ (fun h => by injection h with _ h2; exact e h2.symm)).trans hu'⟩
  · obtain ⟨v, hv, h7⟩ := h.done j hj
    refine ⟨v, hv, at7_other h7 fun q h1 h2 => World.cell?_setCell_other _ _ _ _ fun h => ?_⟩
    injection h with _ h3
    omega
theorem FillC.puts {B g n k : Nat} {L : List CC} (vs : List Value) : ∀ {w : World} (_ : FillC w B g n k L) (i : Nat) (_ : k * 7 ≤ i), FillC (setL w g i vs) B g n k L := by
  induction vs with
  | nil => intro w h i hi; exact h
  | cons v vs ih => intro w h i hi; exact ih (h.put i hi v) (i + 1) (by omega)
theorem FillC.lay {w : World} {B g n k : Nat} {L : List CC} (h : FillC w B g n k L) (hk : k < n) {v : CC} (hl : L[k]? = some v) :
    FillC (setL w g (k * 7) [.int .i64 v.id, .string v.nm, .int .i64 v.dr, .int .i64 v.ah, .int .i64 v.be, .int .i64 v.sp, .int .i64 v.fu]) B g n (k + 1) L := by
  have hat := setL_at [.int .i64 v.id, .string v.nm, .int .i64 v.dr, .int .i64 v.ah, .int .i64 v.be, .int .i64 v.sp, .int .i64 v.fu] w g (k * 7) (fun i hi => h.cells _ (by simp only [List.length_cons, List.length_nil] at hi; omega))
  exact (h.puts [.int .i64 v.id, .string v.nm, .int .i64 v.dr, .int .i64 v.ah, .int .i64 v.be, .int .i64 v.sp, .int .i64 v.fu] (k * 7) (Nat.le_refl _)).more hl ⟨hat 0 _ rfl, hat 1 _ rfl, hat 2 _ rfl, hat 3 _ rfl, hat 4 _ rfl, hat 5 _ rfl, hat 6 _ rfl⟩
theorem crafts_of_fill {w : World} {B g n : Nat} {L : List CC} (h : FillC w B g n n L) (hn : L.length = n) (hz : ∀ v ∈ L, v.nm.size ≤ maxLen) : Crafts w w.heap.size (some ⟨g, 0, none⟩) n L :=
  ⟨hn, fun k hk => by
    obtain ⟨v, hv, h7⟩ := h.done k hk
    exact ⟨g, 0, v, rfl, h.lt, hv, hz v (List.mem_of_getElem? hv), by rw [Nat.zero_add]; exact h7⟩⟩
theorem small_of {L : List CC} {n : Nat} (h : n + szCL L ≤ 1048576) : ∀ v ∈ L, v.nm.size ≤ maxLen := fun v hv => by
  obtain ⟨j, hj⟩ := List.mem_iff_getElem?.1 hv
  have := szCL_at hj
  unfold maxLen; omega
theorem small_cr {w : World} {B n : Nat} {A : Option Addr} {L : List CC} (h : Crafts w B A n L) : ∀ v ∈ L, v.nm.size ≤ maxLen := fun v hv => by
  obtain ⟨j, hj⟩ := List.mem_iff_getElem?.1 hv
  obtain ⟨hl, _⟩ := List.getElem?_eq_some_iff.1 hj
  obtain ⟨_, _, v', _, _, hv', hn, _⟩ := h.2 j (by have := h.1; omega)
  obtain rfl : v = v' := Option.some.inj (hj.symm.trans hv')
  exact hn
/-! ### laws.eqCraft, laws.eqCraftS -/
end Go.Proofs.Ytdmnkmdlochogaa
