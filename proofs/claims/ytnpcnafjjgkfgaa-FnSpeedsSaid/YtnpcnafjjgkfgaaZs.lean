/-
  Rows of casts: contracts of laws.szCastS, toCastS, eqCastS over this translation. Conditions: stated at each theorem.
-/
import Derived.Test.YtnpcnafjjgkfgaaZo
import Derived.Test.YtnpcnafjjgkfgaaZg
namespace Go.Proofs.Ytnpcnafjjgkfgaa
open Go.RowKit

/-! ### laws.szCastS -/
def szKL : List KC → Nat
  | [] => 0
  | g :: t => g.l.length + szKL t
theorem szKL_snoc (L : List KC) (g : KC) : szKL (L ++ [g]) = szKL L + (g.l.length) := by
  induction L with
  | nil => simp [szKL]
  | cons x t ih => simp only [List.cons_append, szKL, ih]; omega
theorem szKL_take {L : List KC} {k : Nat} {g : KC} (h : L[k]? = some g) : szKL (L.take (k + 1)) = szKL (L.take k) + (g.l.length) := by
  obtain ⟨hk, rfl⟩ := List.getElem?_eq_some_iff.1 h
  rw [List.take_succ_eq_append_getElem hk, szKL_snoc]
theorem szKL_le (L : List KC) (k : Nat) : szKL (L.take k) ≤ szKL L := by
  induction L generalizing k with
  | nil => simp [szKL]
  | cons x t ih =>
    cases k with
    | zero => simp [szKL]
    | succ k => have := ih k; simp only [List.take_succ_cons, szKL]; omega
theorem szKL_at {L : List KC} {k : Nat} {g : KC} (h : L[k]? = some g) : g.l.length ≤ szKL L := by
  have h1 := szKL_take h
  have h2 := szKL_le L (k + 1)
  omega
set_option maxHeartbeats 800000 in
theorem szKs_pos (A : Option Addr) (n c : Nat) (L : List KC) (w : World) (hs : Casts w w.heap.size A n L) (h : n + szKL L ≤ 1048576) :
    Calls Try.prog 48 #[.slice A n c, .int .i64 1048576] w fun e w' => e = .returned (.int .i64 ((1048576 : Int) - n - (szKL L : Nat))) ∧ Below w.heap.size w w' := by
  obtain rfl := hs.1
  have HS := Lib.hid hs
  clear hs
  go_enter Try.func48, Try.ntmps48
  go_wp2_with fail
  go_loopw [1, 5] (fun s i wr => ∃ k m : Nat, k ≤ L.length ∧ i = .int .i64 k ∧ m + szKL (L.take k) + L.length = 1048576 ∧ s = .int .i64 m ∧ Hid (Below w.heap.size w wr)) (fun _ i _ => L.length - (intOf i).toNat)
  case atStart => exact ⟨0, 1048576 - L.length, Nat.zero_le _, rfl, by simp [szKL]; omega, by rw [show ((1048576 - L.length : Nat) : Int) = 1048576 - (L.length : Int) by omega], Lib.hid (Below.refl _ _)⟩
  case round =>
    obtain ⟨k, m, hk, rfl, hm, rfl, hB⟩ := hrel
    by_cases hlt : k < L.length
    · obtain ⟨b, o, id, tm, x, y, l, A', c', rfl, hb, hL, c0, c1, c2, c3, c4, hsp, hl⟩ := (HS.out.on hB.out (Nat.le_refl _)).2 k hlt
      have h1 := szKL_take hL
      have h2 := szKL_le L (k + 1)
      dsimp only at h1
      clear hL hsp
      go_wp2_with fail
      refine (szK_pos _ _ _ _ _ _ _ _ _ (by omega) (by omega)).mono ?_
      rintro e w1 ⟨rfl, hb'⟩
      have HB := Lib.hid (bthen hB.out hb' hB.out.size)
      clear hb' c0 c1 c2 c3 c4
      have h3 : 0 ≤ (m : Int) - l.length := by omega
      go_wp2_with fail
      go_roundw
      case rel => exact ⟨k + 1, m - l.length, by omega, by go_num, by omega, by rw [show ((m - l.length : Nat) : Int) = (m : Int) - l.length by omega], HB⟩
      case measure => simp [intOf]; omega
    · obtain rfl : k = L.length := by omega
      rw [List.take_of_length_le (Nat.le_refl _)] at hm
      have HR : Hid ((m : Int) = (1048576 : Int) - L.length - (szKL L : Nat)) := by unfold Hid; omega
      go_wp2_with fail
      go_ret
      exact ⟨ret_int HR.out, hB.out⟩
set_option maxHeartbeats 800000 in
theorem szKs_neg (A : Option Addr) (n c : Nat) (L : List KC) (w : World) (hs : Casts w w.heap.size A n L) (hm : n ≤ maxLen) (h : ¬ n + szKL L ≤ 1048576) :
    Calls Try.prog 48 #[.slice A n c, .int .i64 1048576] w fun e w' => e = .returned (.int .i64 (-1)) ∧ Below w.heap.size w w' := by
  obtain rfl := hs.1
  have HS := Lib.hid hs
  clear hs
  unfold maxLen at hm
  by_cases h0 : (1048576 : Int) < L.length
  · go_enter Try.func48, Try.ntmps48
    go_wp2_with fail
    go_ret
    exact ⟨rfl, Below.refl _ _⟩
  go_enter Try.func48, Try.ntmps48
  go_wp2_with fail
  go_loopw [1, 5] (fun s i wr => ∃ k m : Nat, k ≤ L.length ∧ i = .int .i64 k ∧ m + szKL (L.take k) + L.length = 1048576 ∧ s = .int .i64 m ∧ Hid (Below w.heap.size w wr)) (fun _ i _ => L.length - (intOf i).toNat)
  case atStart => exact ⟨0, 1048576 - L.length, Nat.zero_le _, rfl, by simp [szKL]; omega, by rw [show ((1048576 - L.length : Nat) : Int) = 1048576 - (L.length : Int) by omega], Lib.hid (Below.refl _ _)⟩
  case round =>
    obtain ⟨k, m, hk, rfl, hm', rfl, hB⟩ := hrel
    by_cases hlt : k < L.length
    · obtain ⟨b, o, id, tm, x, y, l, A', c', rfl, hb, hL, c0, c1, c2, c3, c4, hsp, hl⟩ := (HS.out.on hB.out (Nat.le_refl _)).2 k hlt
      have h1 := szKL_take hL
      dsimp only at h1
      clear hL hsp
      by_cases hfit : l.length ≤ m
      · go_wp2_with fail
        refine (szK_pos _ _ _ _ _ _ _ _ _ (by omega) (by omega)).mono ?_
        rintro e w1 ⟨rfl, hb'⟩
        have HB := Lib.hid (bthen hB.out hb' hB.out.size)
        clear hb' c0 c1 c2 c3 c4
        have h3 : 0 ≤ (m : Int) - l.length := by omega
        go_wp2_with fail
        go_roundw
        case rel => exact ⟨k + 1, m - l.length, by omega, by go_num, by omega, by rw [show ((m - l.length : Nat) : Int) = (m : Int) - l.length by omega], HB⟩
        case measure => simp [intOf]; omega
      · go_wp2_with fail
        refine (szK_neg _ _ _ _ _ _ _ _ _ (by omega) (by omega) hl (by omega)).mono ?_
        rintro e w1 ⟨rfl, hb'⟩
        have HB := Lib.hid (bthen hB.out hb' hB.out.size)
        clear hb' c0 c1 c2 c3 c4
        go_wp2_with fail
        go_ret
        exact ⟨rfl, HB.out⟩
    · obtain rfl : k = L.length := by omega
      rw [List.take_of_length_le (Nat.le_refl _)] at hm'
      exact absurd (show L.length + szKL L ≤ 1048576 by omega) h
/-! ### laws.toCastS -/
theorem infoCast : (Try.prog.info? 28).map (fun i => (i.zero, i.size, i.bytes)) = some (some (.agg #[.int .i64 0, .int .i64 0, .int .i64 0, .int .i64 0, .slice none 0 0]), 5, 56) := by kernel_rfl
/-- Block g holds n casts, the first k of which are those of L, their layers in blocks behind g; all may be written. -/
structure FillK (w : World) (B g n k : Nat) (L : List KC) : Prop where
  low : B ≤ g
  lt : g < w.heap.size
  free : ∀ j, w.frozen? ⟨g, j, none⟩ = false
  cells : ∀ j, j < n → ∃ v0 v1 v2 v3 v4 : Value, w.cell? ⟨g, j * 5, none⟩ = some v0 ∧ w.cell? ⟨g, j * 5 + 1, none⟩ = some v1 ∧ w.cell? ⟨g, j * 5 + 2, none⟩ = some v2 ∧ w.cell? ⟨g, j * 5 + 3, none⟩ = some v3 ∧ w.cell? ⟨g, j * 5 + 4, none⟩ = some v4 ∧
    (j < k → ∃ (id tm x y : Int) (l : List (Int × Int)) (A' : Option Addr), L[j]? = some ⟨id, tm, x, y, l⟩ ∧ v0 = .int .i64 id ∧ v1 = .int .i64 tm ∧ v2 = .int .i64 x ∧ v3 = .int .i64 y ∧ v4 = .slice A' l.length l.length ∧ Own2 w (g + 1) w.heap.size A' l.length l)
theorem FillK.next {w w' : World} {B g n k : Nat} {L : List KC} (h : FillK w B g n k L) (hb : Below w.heap.size w w') : FillK w' B g n k L :=
  ⟨h.low, Nat.lt_of_lt_of_le h.lt hb.size, fun j => (hb.frozen (p := ⟨g, j, none⟩) h.lt).trans (h.free j), fun j hj => by
    obtain ⟨v0, v1, v2, v3, v4, h0, h1, h2, h3, h4, h5⟩ := h.cells j hj
    exact ⟨v0, v1, v2, v3, v4, (hb.cell (p := ⟨g, _, none⟩) h.lt).trans h0, (hb.cell (p := ⟨g, _, none⟩) h.lt).trans h1, (hb.cell (p := ⟨g, _, none⟩) h.lt).trans h2, (hb.cell (p := ⟨g, _, none⟩) h.lt).trans h3, (hb.cell (p := ⟨g, _, none⟩) h.lt).trans h4, fun hjk => by
      obtain ⟨id, tm, x, y, l, A', hL, e0, e1, e2, e3, e4, ho⟩ := h5 hjk
      exact ⟨id, tm, x, y, l, A', hL, e0, e1, e2, e3, e4, (ho.on hb (Nat.le_refl _)).wide (Nat.le_refl _) hb.size⟩⟩⟩
def set5 (w : World) (g k : Nat) (v0 v1 v2 v3 v4 : Value) : World :=
  ((((w.setCell ⟨g, k * 5, none⟩ v0).setCell ⟨g, k * 5 + 1, none⟩ v1).setCell ⟨g, k * 5 + 2, none⟩ v2).setCell ⟨g, k * 5 + 3, none⟩ v3).setCell ⟨g, k * 5 + 4, none⟩ v4
theorem set5_other (w : World) (g k : Nat) (v0 v1 v2 v3 v4 : Value) (p : Addr) (h : p.block ≠ g ∨ (p.spot = none ∧ (p.off < k * 5 ∨ k * 5 + 4 < p.off))) : (set5 w g k v0 v1 v2 v3 v4).cell? p = w.cell? p := by
  unfold set5
  have ne : ∀ o, k * 5 ≤ o → o ≤ k * 5 + 4 → (⟨g, o, none⟩ : Addr) ≠ p := fun o h1 h2 e => by subst e; simp at h; omega
  rw [World.cell?_setCell_other _ _ _ _ (ne _ (by omega) (by omega)), World.cell?_setCell_other _ _ _ _ (ne _ (by omega) (by omega)), World.cell?_setCell_other _ _ _ _ (ne _ (by omega) (by omega)), World.cell?_setCell_other _ _ _ _ (ne _ (by omega) (by omega)), World.cell?_setCell_other _ _ _ _ (ne _ (by omega) (by omega))]
theorem set5_frozen (w : World) (g k : Nat) (v0 v1 v2 v3 v4 : Value) (p : Addr) : (set5 w g k v0 v1 v2 v3 v4).frozen? p = w.frozen? p := by
  unfold set5
  rw [World.frozen?_setCell, World.frozen?_setCell, World.frozen?_setCell, World.frozen?_setCell, World.frozen?_setCell]
theorem set5_size (w : World) (g k : Nat) (v0 v1 v2 v3 v4 : Value) : (set5 w g k v0 v1 v2 v3 v4).heap.size = w.heap.size := by
  unfold set5; simp [World.setCell]
theorem set5_cells {w : World} {g k : Nat} (v0 v1 v2 v3 v4 : Value) {u0 u1 u2 u3 u4 : Value} (h0 : w.cell? ⟨g, k * 5, none⟩ = some u0) (h1 : w.cell? ⟨g, k * 5 + 1, none⟩ = some u1) (h2 : w.cell? ⟨g, k * 5 + 2, none⟩ = some u2) (h3 : w.cell? ⟨g, k * 5 + 3, none⟩ = some u3) (h4 : w.cell? ⟨g, k * 5 + 4, none⟩ = some u4) :
    (set5 w g k v0 v1 v2 v3 v4).cell? ⟨g, k * 5, none⟩ = some v0 ∧ (set5 w g k v0 v1 v2 v3 v4).cell? ⟨g, k * 5 + 1, none⟩ = some v1 ∧ (set5 w g k v0 v1 v2 v3 v4).cell? ⟨g, k * 5 + 2, none⟩ = some v2 ∧ (set5 w g k v0 v1 v2 v3 v4).cell? ⟨g, k * 5 + 3, none⟩ = some v3 ∧ (set5 w g k v0 v1 v2 v3 v4).cell? ⟨g, k * 5 + 4, none⟩ = some v4 := by
  unfold set5
  have ne : ∀ a b : Nat, a ≠ b → (⟨g, a, none⟩ : Addr) ≠ ⟨g, b, none⟩ := fun a b h e => by injection e with _ h2; exact h h2
  have O := fun (W : World) (v : Value) (a b : Nat) (h : a ≠ b) => World.cell?_setCell_other W ⟨g, a, none⟩ ⟨g, b, none⟩ v (ne a b h)
  refine ⟨?_, ?_, ?_, ?_, ?_⟩
  · rw [O _ _ _ _ (by omega), O _ _ _ _ (by omega), O _ _ _ _ (by omega), O _ _ _ _ (by omega)]
    exact World.cell?_setCell_same _ _ _ h0
  · rw [O _ _ _ _ (by omega), O _ _ _ _ (by omega), O _ _ _ _ (by omega)]
    exact World.cell?_setCell_same _ _ _ ((O _ _ _ _ (by omega)).trans h1)
  · rw [O _ _ _ _ (by omega), O _ _ _ _ (by omega)]
    exact World.cell?_setCell_same _ _ _ ((O _ _ _ _ (by omega)).trans ((O _ _ _ _ (by omega)).trans h2))
  · rw [O _ _ _ _ (by omega)]
    exact World.cell?_setCell_same _ _ _ ((O _ _ _ _ (by omega)).trans ((O _ _ _ _ (by omega)).trans ((O _ _ _ _ (by omega)).trans h3)))
  · exact World.cell?_setCell_same _ _ _ ((O _ _ _ _ (by omega)).trans ((O _ _ _ _ (by omega)).trans ((O _ _ _ _ (by omega)).trans ((O _ _ _ _ (by omega)).trans h4))))
theorem Own2.set5 {w : World} {lo hi n : Nat} {A : Option Addr} {l : List (Int × Int)} (h : Own2 w lo hi A n l) (g k : Nat) (v0 v1 v2 v3 v4 : Value) (hg : g < lo) : Own2 (set5 w g k v0 v1 v2 v3 v4) lo hi A n l :=
  ((((h.put ⟨g, k * 5, none⟩ v0 (.inl hg)).put ⟨g, k * 5 + 1, none⟩ v1 (.inl hg)).put ⟨g, k * 5 + 2, none⟩ v2 (.inl hg)).put ⟨g, k * 5 + 3, none⟩ v3 (.inl hg)).put ⟨g, k * 5 + 4, none⟩ v4 (.inl hg)
theorem fillK_step {w : World} {B g n k : Nat} {L : List KC} {id tm x y : Int} {l : List (Int × Int)} {A' : Option Addr} (h : FillK w B g n k L) (hk : k < n) (hl : L[k]? = some ⟨id, tm, x, y, l⟩) (ho : Own2 w (g + 1) w.heap.size A' l.length l) :
    FillK (set5 w g k (.int .i64 id) (.int .i64 tm) (.int .i64 x) (.int .i64 y) (.slice A' l.length l.length)) B g n (k + 1) L := by
  refine ⟨h.low, by rw [set5_size]; exact h.lt, fun j => (set5_frozen _ _ _ _ _ _ _ _ _).trans (h.free j), fun j hj => ?_⟩
  rw [set5_size]
  by_cases e : j = k
  · subst e
    obtain ⟨v0, v1, v2, v3, v4, h0, h1, h2, h3, h4, _⟩ := h.cells j hj
    obtain ⟨g0, g1, g2, g3, g4⟩ := set5_cells (.int .i64 id) (.int .i64 tm) (.int .i64 x) (.int .i64 y) (.slice A' l.length l.length) h0 h1 h2 h3 h4
    exact ⟨_, _, _, _, _, g0, g1, g2, g3, g4, fun _ => ⟨id, tm, x, y, l, A', hl, rfl, rfl, rfl, rfl, rfl, ho.set5 g j _ _ _ _ _ (Nat.lt_succ_self _)⟩⟩
  · obtain ⟨v0, v1, v2, v3, v4, h0, h1, h2, h3, h4, h5⟩ := h.cells j hj
    have O := fun (o : Nat) (ho : j * 5 ≤ o ∧ o ≤ j * 5 + 4) => set5_other w g k (.int .i64 id) (.int .i64 tm) (.int .i64 x) (.int .i64 y) (.slice A' l.length l.length) ⟨g, o, none⟩ (.inr ⟨rfl, by simp only; omega⟩)
    exact ⟨v0, v1, v2, v3, v4, (O _ (by omega)).trans h0, (O _ (by omega)).trans h1, (O _ (by omega)).trans h2, (O _ (by omega)).trans h3, (O _ (by omega)).trans h4, fun hjk => by
      obtain ⟨id', tm', x', y', l', A2, hL, e0, e1, e2, e3, e4, ho'⟩ := h5 (by omega)
      exact ⟨id', tm', x', y', l', A2, hL, e0, e1, e2, e3, e4, ho'.set5 g k _ _ _ _ _ (Nat.lt_succ_self _)⟩⟩
theorem fillK_new {w1 : World} {B g n : Nat} {L : List KC} (h : w1.ownsRow B 28 5 (.slice (some ⟨g, 0, none⟩) n n) n (madeCells (Value.agg #[.int .i64 0, .int .i64 0, .int .i64 0, .int .i64 0, .slice none 0 0]).cells (n * 5)).toList) : FillK w1 B g n 0 L := by
  refine ⟨(h.lt g rfl).1, (h.lt g rfl).2, fun j => h.frozenAt j, fun j hj => ?_⟩
  have hl : ∀ o, o < n * 5 → ∃ v, w1.cell? ⟨g, o, none⟩ = some v := fun o ho => by
    rw [h.cellAt o (by omega)]
    have h1 := h.1
    exact ⟨_, List.getElem?_eq_getElem (by omega)⟩
  obtain ⟨v0, h0⟩ := hl (j * 5) (by omega)
  obtain ⟨v1, h1⟩ := hl (j * 5 + 1) (by omega)
  obtain ⟨v2, h2⟩ := hl (j * 5 + 2) (by omega)
  obtain ⟨v3, h3⟩ := hl (j * 5 + 3) (by omega)
  obtain ⟨v4, h4⟩ := hl (j * 5 + 4) (by omega)
  exact ⟨v0, v1, v2, v3, v4, h0, h1, h2, h3, h4, fun hlt => absurd hlt (by omega)⟩
theorem below_set5 {B : Nat} {a w : World} (h : Below B a w) {g : Nat} (hg : B ≤ g) (k : Nat) (v0 v1 v2 v3 v4 : Value) : Below B a (set5 w g k v0 v1 v2 v3 v4) :=
  ((((h.setCell (p := ⟨g, k * 5, none⟩) hg v0).setCell (p := ⟨g, k * 5 + 1, none⟩) hg v1).setCell (p := ⟨g, k * 5 + 2, none⟩) hg v2).setCell (p := ⟨g, k * 5 + 3, none⟩) hg v3).setCell (p := ⟨g, k * 5 + 4, none⟩) hg v4
theorem casts_of_fill {w : World} {B g n : Nat} {L : List KC} (h : FillK w B g n n L) (hn : L.length = n) (hb : n + szKL L ≤ 1048576) : Casts w w.heap.size (some ⟨g, 0, none⟩) n L :=
  ⟨hn, fun k hk => by
    obtain ⟨v0, v1, v2, v3, v4, h0, h1, h2, h3, h4, h5⟩ := h.cells k hk
    obtain ⟨id, tm, x, y, l, A', hL, rfl, rfl, rfl, rfl, rfl, ho⟩ := h5 hk
    have hz := szKL_at hL
    dsimp only at hz
    exact ⟨g, 0, id, tm, x, y, l, A', l.length, rfl, h.lt, hL, by rw [Nat.zero_add]; exact h0, by rw [Nat.zero_add]; exact h1, by rw [Nat.zero_add]; exact h2, by rw [Nat.zero_add]; exact h3, by rw [Nat.zero_add]; exact h4, ho.spots (Nat.le_refl _), by unfold maxLen; omega⟩⟩
def CopyKs (L : List KC) (w : World) (e : Ending) (w' : World) : Prop :=
  ∃ g, e = .returned (.slice (some ⟨g, 0, none⟩) L.length L.length) ∧ FillK w' w.heap.size g L.length L.length L ∧ Below w.heap.size w w'
set_option maxHeartbeats 1600000 in
theorem copyKs_any (A : Option Addr) (n c : Nat) (L : List KC) (w : World) (hs : Casts w w.heap.size A n L) (hsz : n + szKL L ≤ 1048576) :
    Calls Try.prog 49 #[.slice A n c] w (CopyKs L w) := by
  obtain ⟨i0, hi, hz0, hz1, hz2⟩ := info_parts infoCast
  obtain rfl := hs.1
  have HS := Lib.hid hs
  clear hs
  go_enter Try.func49, Try.ntmps49
  go_wp2_with (at_make; refine wpList_make_full _ rfl _ _ 44 rfl w.heap.size 28 i0 (.agg #[.int .i64 0, .int .i64 0, .int .i64 0, .int .i64 0, .slice none 0 0]) 5 Try.underlying44 hi hz0 hz1 .i64 .i64 _ _ L.length rfl rfl rfl rfl (by rw [hz2]; omega) (by unfold maxLen; omega) (Nat.le_refl _) ?_; intro w1 hown hgrow)
  have HB0 := Lib.hid ((Below.refl w.heap.size w).grown hgrow (Nat.le_refl _) (fun k e => by cases e))
  have HF0 : Hid (FillK w1 w.heap.size w.heap.size L.length 0 L) := fillK_new hown
  clear hown hgrow
  go_loopw [4] (fun i wr => ∃ k : Nat, k ≤ L.length ∧ i = .int .i64 k ∧ Hid (FillK wr w.heap.size w.heap.size L.length k L) ∧ Hid (Below w.heap.size w wr)) (fun i _ => L.length - (intOf i).toNat)
  case atStart => exact ⟨0, Nat.zero_le _, rfl, HF0, HB0⟩
  case round =>
    obtain ⟨k, hk, rfl, hF, hB⟩ := hrel
    by_cases hlt : k < L.length
    · obtain ⟨b, o, id, tm, x, y, l, A', c', rfl, hb, hL, c0, c1, c2, c3, c4, hsp, hl⟩ := (casts_at HS.out hB.out).2 k hlt
      have HK := Lib.hid hL
      have hz := szKL_at hL
      dsimp only at hz
      have HSP := Lib.hid hsp
      clear hL hsp
      go_wp2_with fail
      refine (toCast_any _ _ _ _ _ _ _ l _ HSP.out (by omega)).mono ?_
      rintro e w1 ⟨g', rfl, hO, hb'⟩
      have HO := Lib.hid (hO.wide (lo' := w.heap.size + 1) (by have := hF.out.lt; omega) (Nat.le_refl _))
      have HF1 := Lib.hid (hF.out.next hb')
      have HB1 := Lib.hid (bthen hB.out hb' hB.out.size)
      clear hO hb' c0 c1 c2 c3
      obtain ⟨v0, v1, v2, v3, v4, h0, h1, h2, h3, h4, _⟩ := HF1.out.cells k hlt
      have f0 := HF1.out.free (k * 5)
      have f1 := HF1.out.free (k * 5 + 1)
      have f2 := HF1.out.free (k * 5 + 2)
      have f3 := HF1.out.free (k * 5 + 3)
      have f4 := HF1.out.free (k * 5 + 4)
      have HF2 := Lib.hid (fillK_step HF1.out hlt HK.out HO.out)
      have HB2 := Lib.hid (below_set5 HB1.out (Nat.le_refl _) k (.int .i64 id) (.int .i64 tm) (.int .i64 x) (.int .i64 y) (.slice (some ⟨g', 0, none⟩) l.length l.length))
      go_wp2_with fail
      go_roundw
      case rel => exact ⟨k + 1, by omega, by go_num, HF2, HB2⟩
      case measure => simp [intOf]; omega
    · obtain rfl : k = L.length := by omega
      have HC : Hid (CopyKs L w (.returned (.slice (some ⟨w.heap.size, 0, none⟩) L.length L.length)) wr) := Lib.hid ⟨_, rfl, hF.out, hB.out⟩
      go_wp2_with fail
      go_ret
      exact HC
/-! ### laws.eqCastS -/
set_option maxHeartbeats 1600000 in
theorem eqKs_same (A A' : Option Addr) (n c c' : Nat) (L : List KC) (w : World) (h1 : Casts w w.heap.size A n L) (h2 : Casts w w.heap.size A' n L) (hm : n ≤ maxLen) :
    Calls Try.prog 50 #[.slice A n c, .slice A' n c'] w fun e w' => e = .returned (.bool true) ∧ Below w.heap.size w w' := by
  unfold maxLen at hm
  have H1 := Lib.hid h1
  have H2 := Lib.hid h2
  clear h1 h2
  go_enter Try.func50, Try.ntmps50
  go_wp2_with fail
  go_loopw [5] (fun i wr => ∃ k : Nat, k ≤ n ∧ i = .int .i64 k ∧ Hid (Below w.heap.size w wr)) (fun i _ => n - (intOf i).toNat)
  case atStart => exact ⟨0, Nat.zero_le _, rfl, Lib.hid (Below.refl _ _)⟩
  case round =>
    obtain ⟨k, hk, rfl, hB⟩ := hrel
    by_cases hlt : k < n
    · obtain ⟨b1, o1, id, tm, x, y, l, A1, c1, rfl, hb1, hL1, p0, p1, p2, p3, p4, hs1, hl1⟩ := (casts_at H1.out hB.out).2 k hlt
      obtain ⟨b2, o2, id2, tm2, x2, y2, l2, A2, c2, rfl, hb2, hL2, q0, q1, q2, q3, q4, hs2, hl2⟩ := (casts_at H2.out hB.out).2 k hlt
      have e : (⟨id, tm, x, y, l⟩ : KC) = ⟨id2, tm2, x2, y2, l2⟩ := Option.some.inj (hL1.symm.trans hL2)
      obtain ⟨rfl, rfl, rfl, rfl, rfl⟩ := KC.mk.inj e
      have HS1 := Lib.hid hs1
      have HS2 := Lib.hid hs2
      clear hL1 hL2 e hs1 hs2
      obtain ⟨W0, rfl⟩ : ∃ W : World, W = wr := ⟨_, rfl⟩
      go_wp2_with fail
      have lc0 := lcell (p0)
      have lc1 := lcell (p1)
      have lc2 := lcell (p2)
      have lc3 := lcell (p3)
      have lc4 := lcell (p4)
      have lc5 := lcell (q0)
      have lc6 := lcell (q1)
      have lc7 := lcell (q2)
      have lc8 := lcell (q3)
      have lc9 := lcell (q4)
      refine region_later (W := W0) (by kernel_rfl) (by kernel_rfl) (Below.refl _ _) ?_
      repeat (go_big_quiet_step (((go_at_call 47; go_loud (exact later_call (eqK_same _ _ _ _ _ _ _ _ _ l _ (spots_more HS1.out (Later.below _)) (spots_more HS2.out (Later.below _)) hl1))))))
      refine wpQuiet_nil ?_
      intro W1 hW1
      have HL : Hid (Below W0.heap.size W0 W1) := by obtain ⟨x, rfl⟩ := hW1; exact Lib.hid x.below
      clear hW1 lc0 lc1 lc2 lc3 lc4 lc5 lc6 lc7 lc8 lc9
      have HT := Lib.hid (bthen hB.out HL.out hB.out.size)
      clear p0 p1 p2 p3 p4 q0 q1 q2 q3 q4
      go_wp2_with fail
      go_roundw
      case rel => exact ⟨k + 1, by omega, by go_num, HT⟩
      case measure => simp [intOf]; omega
    · obtain rfl : k = n := by omega
      go_wp2_with fail
      go_ret
      exact ⟨rfl, hB.out⟩
end Go.Proofs.Ytnpcnafjjgkfgaa
