/-
  Rows of gauges: how they read; contracts of laws.szGaugeS, toGaugeS, eqGaugeS over this translation. Conditions: stated at each theorem.
-/
import Derived.Test.YtdmnkmdlochogaaOg
import Derived.Test.YtdmnkmdlochogaaGl
namespace Go.Proofs.Ytdmnkmdlochogaa
open Go.Joins Go.ChangeShapes Go.WideShapes Go.ChangeAt Go.RowKit Go.Deep

structure GG where
  id : Int
  nm : ByteArray
  ze : Int
  l : List (Int × Int)
/-- The slice value with address A and n elements reads as the gauges L; all lies below B. -/
def Gauges (w : World) (B : Nat) (A : Option Addr) (n : Nat) (L : List GG) : Prop :=
  L.length = n ∧ ∀ k, k < n → ∃ (b o : Nat) (id : Int) (nm : ByteArray) (ze : Int) (l : List (Int × Int)) (A' : Option Addr) (c : Nat), A = some ⟨b, o, none⟩ ∧ b < B ∧ L[k]? = some ⟨id, nm, ze, l⟩ ∧
    w.cell? ⟨b, o + k * 4, none⟩ = some (.int .i64 id) ∧ w.cell? ⟨b, o + k * 4 + 1, none⟩ = some (.string nm) ∧ w.cell? ⟨b, o + k * 4 + 2, none⟩ = some (.int .i64 ze) ∧ w.cell? ⟨b, o + k * 4 + 3, none⟩ = some (.slice A' l.length c) ∧
    Spots w B A' l.length l ∧ l.length ≤ maxLen ∧ nm.size ≤ maxLen
theorem Gauges.on {w w' : World} {B B' n : Nat} {A : Option Addr} {L : List GG} (h : Gauges w B A n L) (hb : Below B' w w') (hB : B ≤ B') : Gauges w' B A n L :=
  ⟨h.1, fun k hk => by
    obtain ⟨b, o, id, nm, ze, l, A', c, hA, hlt, hL, h0, h1, h2, h3, hs, r⟩ := h.2 k hk
    have hg := Nat.lt_of_lt_of_le hlt hB
    exact ⟨b, o, id, nm, ze, l, A', c, hA, hlt, hL, (hb.cell (p := ⟨b, _, none⟩) hg).trans h0, (hb.cell (p := ⟨b, _, none⟩) hg).trans h1, (hb.cell (p := ⟨b, _, none⟩) hg).trans h2, (hb.cell (p := ⟨b, _, none⟩) hg).trans h3, hs.on hb hB, r⟩⟩
theorem Gauges.up {w : World} {B B' n : Nat} {A : Option Addr} {L : List GG} (h : Gauges w B A n L) (hB : B ≤ B') : Gauges w B' A n L :=
  ⟨h.1, fun k hk => by
    obtain ⟨b, o, id, nm, ze, l, A', c, hA, hlt, hL, h0, h1, h2, h3, hs, r⟩ := h.2 k hk
    exact ⟨b, o, id, nm, ze, l, A', c, hA, Nat.lt_of_lt_of_le hlt hB, hL, h0, h1, h2, h3, ⟨hs.1, fun i hi => by
      obtain ⟨b', o', x, y, hA', hlt', q⟩ := hs.2 i hi
      exact ⟨b', o', x, y, hA', Nat.lt_of_lt_of_le hlt' hB, q⟩⟩, r⟩⟩
theorem gauges_at {w W : World} {n : Nat} {A : Option Addr} {L : List GG} (h : Gauges w w.heap.size A n L) (hb : Below w.heap.size w W) : Gauges W W.heap.size A n L :=
  (h.on hb (Nat.le_refl _)).up hb.size

/-! ### An argument -/
theorem cells_gauge : Try.prog.cellsOf 149 = 4 := cellsGaugeL
section
variable {H : Type} {enc : TypeId × Value → H} {w : World}
set_option maxRecDepth 100000 in
theorem open_gauges {A : Option Addr} {n c : Nat} {d : DataW H} {p : List MemPlace} (h : DataW.Trod enc Try.prog w 0 (fun _ => true) true 88 (.slice A n c) d p) :
    n ≤ maxLen ∧ ∃ L, Gauges w w.heap.size A n L := by
  obtain ⟨fuel, hf⟩ := h
  rcases open_slice Try.underlying88 hf with ⟨hcs, _⟩ | ⟨a, len, cap, m, n', D, Pl, hcs, _, hl, hm, hmm, _, hx⟩
  · simp [Value.cells] at hcs
    obtain ⟨rfl, rfl, rfl⟩ := hcs
    exact ⟨by unfold maxLen; omega, [], rfl, fun k hk => absurd hk (by omega)⟩
  · simp [Value.cells] at hcs
    obtain ⟨rfl, rfl, rfl⟩ := hcs
    simp only [if_true] at hmm
    rw [cellsGaugeL] at hx
    have key : ∀ i, i < n → ∃ z : GG, w.cell? (a.add (i * 4)) = some (.int .i64 z.id) ∧ w.cell? ((a.add (i * 4)).add 1) = some (.string z.nm) ∧ w.cell? ((a.add (i * 4)).add 2) = some (.int .i64 z.ze) ∧
        (∃ A' c, w.cell? ((a.add (i * 4)).add 3) = some (.slice A' z.l.length c) ∧ Spots w w.heap.size A' z.l.length z.l) ∧ z.l.length ≤ maxLen ∧ z.nm.size ≤ maxLen := fun i hi => by
      obtain ⟨cs', hc, ht⟩ := hx i (by omega)
      obtain ⟨_, hlen, hat⟩ := World.cells?_some hc
      match cs', hlen with
      | [v0, v1, v2, v3], _ =>
        obtain ⟨y0, y1, y2, y3, m', _, _, h0, h1, h2, h3⟩ := trod_struct4 Try.underlying149 ht
        simp only [cells3, cellsStr, cellsRowL] at h0 h1 h2 h3
        obtain ⟨id, rfl⟩ : ∃ x : Int, v0 = .int .i64 x := int_cell (n := m') h0
        obtain ⟨nm, rfl, hn⟩ : ∃ s : ByteArray, v1 = .string s ∧ s.size ≤ maxLen := str_cell (n := m') h1
        obtain ⟨ze, rfl⟩ : ∃ x : Int, v2 = .int .i64 x := int_cell (n := m') h2
        obtain ⟨A', m2, c', rfl, hm2, l, hs⟩ : ∃ (A : Option Addr) (n c : Nat), v3 = .slice A n c ∧ n ≤ maxLen ∧ ∃ l, Spots w w.heap.size A n l := row_cell (n := m') h3
        obtain rfl := hs.1
        exact ⟨⟨id, nm, ze, l⟩, by simpa [Addr.add] using hat 0 (by omega), hat 1 (by omega), hat 2 (by omega), ⟨A', c', hat 3 (by omega), hs⟩, hm2, hn⟩
    obtain ⟨b, o, spot⟩ := a
    rcases Nat.eq_zero_or_pos n with h0 | hpos
    · subst h0
      exact ⟨by omega, [], rfl, fun k hk => absurd hk (by omega)⟩
    have hspot : spot = none := by
      obtain ⟨z, hz, _⟩ := key 0 hpos
      simpa [Addr.add] using World.cell?_spot hz
    subst hspot
    have : Inhabited GG := ⟨⟨0, ⟨#[]⟩, 0, []⟩⟩
    obtain ⟨f, hfx⟩ := choose_lt (α := GG) key
    refine ⟨by omega, (List.range n).map f, by simp, fun k hk => ?_⟩
    obtain ⟨h0, h1, h2, ⟨A', c', h3, hs⟩, hm2, hn⟩ := hfx k hk
    rw [add_none] at h0 h1 h2 h3
    rw [add_none] at h1 h2 h3
    exact ⟨b, o, (f k).id, (f k).nm, (f k).ze, (f k).l, A', c', rfl, World.block_lt_of_cell? w _ h0, by simp [hk], h0, h1, h2, h3, hs, hm2, hn⟩
end

/-! ### laws.szGaugeS -/
def szL : List GG → Nat
  | [] => 0
  | g :: t => g.nm.size + g.l.length + szL t
theorem szL_snoc (L : List GG) (g : GG) : szL (L ++ [g]) = szL L + (g.nm.size + g.l.length) := by
  induction L with
  | nil => simp [szL]
  | cons x t ih => simp only [List.cons_append, szL, ih]; omega
theorem szL_take {L : List GG} {k : Nat} {g : GG} (h : L[k]? = some g) : szL (L.take (k + 1)) = szL (L.take k) + (g.nm.size + g.l.length) := by
  obtain ⟨hk, rfl⟩ := List.getElem?_eq_some_iff.1 h
  rw [List.take_succ_eq_append_getElem hk, szL_snoc]
theorem szL_le (L : List GG) (k : Nat) : szL (L.take k) ≤ szL L := by
  induction L generalizing k with
  | nil => simp [szL]
  | cons x t ih =>
    cases k with
    | zero => simp [szL]
    | succ k => have := ih k; simp only [List.take_succ_cons, szL]; omega
theorem szL_at {L : List GG} {k : Nat} {g : GG} (h : L[k]? = some g) : g.nm.size + g.l.length ≤ szL L := by
  have h1 := szL_take h
  have h2 := szL_le L (k + 1)
  omega
set_option maxHeartbeats 800000 in
theorem szGs_pos (A : Option Addr) (n c : Nat) (L : List GG) (w : World) (hs : Gauges w w.heap.size A n L) (h : n + szL L ≤ 1048576) :
    Calls Try.prog 74 #[.slice A n c, .int .i64 1048576] w fun e w' => e = .returned (.int .i64 ((1048576 : Int) - n - (szL L : Nat))) ∧ Below w.heap.size w w' := by
  obtain rfl := hs.1
  have HS := Lib.hid hs
  clear hs
  go_enter Try.func74, Try.ntmps74
  go_wp2_with fail
  go_loopw [1, 5] (fun s i wr => ∃ k m : Nat, k ≤ L.length ∧ i = .int .i64 k ∧ m + szL (L.take k) + L.length = 1048576 ∧ s = .int .i64 m ∧ Hid (Below w.heap.size w wr)) (fun _ i _ => L.length - (intOf i).toNat)
  case atStart => exact ⟨0, 1048576 - L.length, Nat.zero_le _, rfl, by simp [szL]; omega, by rw [show ((1048576 - L.length : Nat) : Int) = 1048576 - (L.length : Int) by omega], Lib.hid (Below.refl _ _)⟩
  case round =>
    obtain ⟨k, m, hk, rfl, hm, rfl, hB⟩ := hrel
    by_cases hlt : k < L.length
    · obtain ⟨b, o, id, nm, ze, l, A', c', rfl, hb, hL, c0, c1, c2, c3, hsp, hl, hn⟩ := (HS.out.on hB.out (Nat.le_refl _)).2 k hlt
      have h1 := szL_take hL
      have h2 := szL_le L (k + 1)
      dsimp only at h1
      clear hL hsp
      go_wp2_with fail
      refine (szG_pos _ _ _ _ _ _ _ _ (by omega) (by omega)).mono ?_
      rintro e w1 ⟨rfl, hb'⟩
      have HB := Lib.hid (bthen hB.out hb' hB.out.size)
      clear hb' c0 c1 c2 c3
      have h3 : 0 ≤ (m : Int) - nm.size - l.length := by omega
      go_wp2_with fail
      go_roundw
      case rel => exact ⟨k + 1, m - nm.size - l.length, by omega, by go_num, by omega, by rw [show ((m - nm.size - l.length : Nat) : Int) = (m : Int) - nm.size - l.length by omega], HB⟩
      case measure => simp [intOf]; omega
    · obtain rfl : k = L.length := by omega
      rw [List.take_of_length_le (Nat.le_refl _)] at hm
      have HR : Hid ((m : Int) = (1048576 : Int) - L.length - (szL L : Nat)) := by unfold Hid; omega
      go_wp2_with fail
      go_ret
      exact ⟨ret_int HR.out, hB.out⟩
set_option maxHeartbeats 800000 in
theorem szGs_neg (A : Option Addr) (n c : Nat) (L : List GG) (w : World) (hs : Gauges w w.heap.size A n L) (hm : n ≤ maxLen) (h : ¬ n + szL L ≤ 1048576) :
    Calls Try.prog 74 #[.slice A n c, .int .i64 1048576] w fun e w' => e = .returned (.int .i64 (-1)) ∧ Below w.heap.size w w' := by
  obtain rfl := hs.1
  have HS := Lib.hid hs
  clear hs
  unfold maxLen at hm
  by_cases h0 : (1048576 : Int) < L.length
  · go_enter Try.func74, Try.ntmps74
    go_wp2_with fail
    go_ret
    exact ⟨rfl, Below.refl _ _⟩
  go_enter Try.func74, Try.ntmps74
  go_wp2_with fail
  go_loopw [1, 5] (fun s i wr => ∃ k m : Nat, k ≤ L.length ∧ i = .int .i64 k ∧ m + szL (L.take k) + L.length = 1048576 ∧ s = .int .i64 m ∧ Hid (Below w.heap.size w wr)) (fun _ i _ => L.length - (intOf i).toNat)
  case atStart => exact ⟨0, 1048576 - L.length, Nat.zero_le _, rfl, by simp [szL]; omega, by rw [show ((1048576 - L.length : Nat) : Int) = 1048576 - (L.length : Int) by omega], Lib.hid (Below.refl _ _)⟩
  case round =>
    obtain ⟨k, m, hk, rfl, hm', rfl, hB⟩ := hrel
    by_cases hlt : k < L.length
    · obtain ⟨b, o, id, nm, ze, l, A', c', rfl, hb, hL, c0, c1, c2, c3, hsp, hl, hn⟩ := (HS.out.on hB.out (Nat.le_refl _)).2 k hlt
      have h1 := szL_take hL
      dsimp only at h1
      clear hL hsp
      by_cases hfit : nm.size + l.length ≤ m
      · go_wp2_with fail
        refine (szG_pos _ _ _ _ _ _ _ _ (by omega) (by omega)).mono ?_
        rintro e w1 ⟨rfl, hb'⟩
        have HB := Lib.hid (bthen hB.out hb' hB.out.size)
        clear hb' c0 c1 c2 c3
        have h3 : 0 ≤ (m : Int) - nm.size - l.length := by omega
        go_wp2_with fail
        go_roundw
        case rel => exact ⟨k + 1, m - nm.size - l.length, by omega, by go_num, by omega, by rw [show ((m - nm.size - l.length : Nat) : Int) = (m : Int) - nm.size - l.length by omega], HB⟩
        case measure => simp [intOf]; omega
      · go_wp2_with fail
        refine (szG_neg _ _ _ _ _ _ _ _ (by omega) (by omega) hn hl (by omega)).mono ?_
        rintro e w1 ⟨rfl, hb'⟩
        have HB := Lib.hid (bthen hB.out hb' hB.out.size)
        clear hb' c0 c1 c2 c3
        go_wp2_with fail
        go_ret
        exact ⟨rfl, HB.out⟩
    · obtain rfl : k = L.length := by omega
      rw [List.take_of_length_le (Nat.le_refl _)] at hm'
      exact absurd (show L.length + szL L ≤ 1048576 by omega) h
/-! ### laws.toGaugeS -/
theorem infoGauge : (Try.prog.info? 26).map (fun i => (i.zero, i.size, i.bytes)) = some (some (.agg #[.int .i64 0, .string ⟨#[]⟩, .int .i64 0, .slice none 0 0]), 4, 56) := by kernel_rfl
/-- Block g holds n gauges, the first k of which are those of L, their readings in blocks behind g; all may be written. -/
structure FillG (w : World) (B g n k : Nat) (L : List GG) : Prop where
  low : B ≤ g
  lt : g < w.heap.size
  free : ∀ j, w.frozen? ⟨g, j, none⟩ = false
  cells : ∀ j, j < n → ∃ v0 v1 v2 v3 : Value, w.cell? ⟨g, j * 4, none⟩ = some v0 ∧ w.cell? ⟨g, j * 4 + 1, none⟩ = some v1 ∧ w.cell? ⟨g, j * 4 + 2, none⟩ = some v2 ∧ w.cell? ⟨g, j * 4 + 3, none⟩ = some v3 ∧
    (j < k → ∃ (id : Int) (nm : ByteArray) (ze : Int) (l : List (Int × Int)) (A' : Option Addr), L[j]? = some ⟨id, nm, ze, l⟩ ∧ v0 = .int .i64 id ∧ v1 = .string nm ∧ v2 = .int .i64 ze ∧ v3 = .slice A' l.length l.length ∧ Own2 w (g + 1) w.heap.size A' l.length l)
theorem FillG.next {w w' : World} {B g n k : Nat} {L : List GG} (h : FillG w B g n k L) (hb : Below w.heap.size w w') : FillG w' B g n k L :=
  ⟨h.low, Nat.lt_of_lt_of_le h.lt hb.size, fun j => (hb.frozen (p := ⟨g, j, none⟩) h.lt).trans (h.free j), fun j hj => by
    obtain ⟨v0, v1, v2, v3, h0, h1, h2, h3, h4⟩ := h.cells j hj
    exact ⟨v0, v1, v2, v3, (hb.cell (p := ⟨g, _, none⟩) h.lt).trans h0, (hb.cell (p := ⟨g, _, none⟩) h.lt).trans h1, (hb.cell (p := ⟨g, _, none⟩) h.lt).trans h2, (hb.cell (p := ⟨g, _, none⟩) h.lt).trans h3, fun hjk => by
      obtain ⟨id, nm, ze, l, A', hL, e0, e1, e2, e3, ho⟩ := h4 hjk
      exact ⟨id, nm, ze, l, A', hL, e0, e1, e2, e3, (ho.on hb (Nat.le_refl _)).wide (Nat.le_refl _) hb.size⟩⟩⟩
def set4 (w : World) (g k : Nat) (v0 v1 v2 v3 : Value) : World :=
  (((w.setCell ⟨g, k * 4, none⟩ v0).setCell ⟨g, k * 4 + 1, none⟩ v1).setCell ⟨g, k * 4 + 2, none⟩ v2).setCell ⟨g, k * 4 + 3, none⟩ v3
theorem set4_other (w : World) (g k : Nat) (v0 v1 v2 v3 : Value) (p : Addr) (h : p.block ≠ g ∨ (p.spot = none ∧ (p.off < k * 4 ∨ k * 4 + 3 < p.off))) : (set4 w g k v0 v1 v2 v3).cell? p = w.cell? p := by
  unfold set4
  have ne : ∀ o, k * 4 ≤ o → o ≤ k * 4 + 3 → (⟨g, o, none⟩ : Addr) ≠ p := fun o h1 h2 e => by subst e; simp at h; omega
  rw [World.cell?_setCell_other _ _ _ _ (ne _ (by omega) (by omega)), World.cell?_setCell_other _ _ _ _ (ne _ (by omega) (by omega)), World.cell?_setCell_other _ _ _ _ (ne _ (by omega) (by omega)), World.cell?_setCell_other _ _ _ _ (ne _ (by omega) (by omega))]
theorem set4_frozen (w : World) (g k : Nat) (v0 v1 v2 v3 : Value) (p : Addr) : (set4 w g k v0 v1 v2 v3).frozen? p = w.frozen? p := by
  unfold set4
  rw [World.frozen?_setCell, World.frozen?_setCell, World.frozen?_setCell, World.frozen?_setCell]
theorem set4_size (w : World) (g k : Nat) (v0 v1 v2 v3 : Value) : (set4 w g k v0 v1 v2 v3).heap.size = w.heap.size := by
  unfold set4; simp [World.setCell]
theorem set4_cells {w : World} {g k : Nat} (v0 v1 v2 v3 : Value) {u0 u1 u2 u3 : Value} (h0 : w.cell? ⟨g, k * 4, none⟩ = some u0) (h1 : w.cell? ⟨g, k * 4 + 1, none⟩ = some u1) (h2 : w.cell? ⟨g, k * 4 + 2, none⟩ = some u2) (h3 : w.cell? ⟨g, k * 4 + 3, none⟩ = some u3) :
    (set4 w g k v0 v1 v2 v3).cell? ⟨g, k * 4, none⟩ = some v0 ∧ (set4 w g k v0 v1 v2 v3).cell? ⟨g, k * 4 + 1, none⟩ = some v1 ∧ (set4 w g k v0 v1 v2 v3).cell? ⟨g, k * 4 + 2, none⟩ = some v2 ∧ (set4 w g k v0 v1 v2 v3).cell? ⟨g, k * 4 + 3, none⟩ = some v3 := by
  unfold set4
  have ne : ∀ a b : Nat, a ≠ b → (⟨g, a, none⟩ : Addr) ≠ ⟨g, b, none⟩ := fun a b h e => by injection e with _ h2; exact h h2
  have O := fun (W : World) (v : Value) (a b : Nat) (h : a ≠ b) => World.cell?_setCell_other W ⟨g, a, none⟩ ⟨g, b, none⟩ v (ne a b h)
  refine ⟨?_, ?_, ?_, ?_⟩
  · rw [O _ _ _ _ (by omega), O _ _ _ _ (by omega), O _ _ _ _ (by omega)]
    exact World.cell?_setCell_same _ _ _ h0
  · rw [O _ _ _ _ (by omega), O _ _ _ _ (by omega)]
    exact World.cell?_setCell_same _ _ _ ((O _ _ _ _ (by omega)).trans h1)
  · rw [O _ _ _ _ (by omega)]
    exact World.cell?_setCell_same _ _ _ ((O _ _ _ _ (by omega)).trans ((O _ _ _ _ (by omega)).trans h2))
  · exact World.cell?_setCell_same _ _ _ ((O _ _ _ _ (by omega)).trans ((O _ _ _ _ (by omega)).trans ((O _ _ _ _ (by omega)).trans h3)))
theorem Own2.set4 {w : World} {lo hi n : Nat} {A : Option Addr} {l : List (Int × Int)} (h : Own2 w lo hi A n l) (g k : Nat) (v0 v1 v2 v3 : Value) (hg : g < lo) : Own2 (set4 w g k v0 v1 v2 v3) lo hi A n l :=
  (((h.put ⟨g, k * 4, none⟩ v0 (.inl hg)).put ⟨g, k * 4 + 1, none⟩ v1 (.inl hg)).put ⟨g, k * 4 + 2, none⟩ v2 (.inl hg)).put ⟨g, k * 4 + 3, none⟩ v3 (.inl hg)
theorem fillG_step {w : World} {B g n k : Nat} {L : List GG} {id : Int} {nm : ByteArray} {ze : Int} {l : List (Int × Int)} {A' : Option Addr} (h : FillG w B g n k L) (hk : k < n) (hl : L[k]? = some ⟨id, nm, ze, l⟩) (ho : Own2 w (g + 1) w.heap.size A' l.length l) :
    FillG (set4 w g k (.int .i64 id) (.string nm) (.int .i64 ze) (.slice A' l.length l.length)) B g n (k + 1) L := by
  refine ⟨h.low, by rw [set4_size]; exact h.lt, fun j => (set4_frozen _ _ _ _ _ _ _ _).trans (h.free j), fun j hj => ?_⟩
  rw [set4_size]
  by_cases e : j = k
  · subst e
    obtain ⟨v0, v1, v2, v3, h0, h1, h2, h3, _⟩ := h.cells j hj
    obtain ⟨g0, g1, g2, g3⟩ := set4_cells (.int .i64 id) (.string nm) (.int .i64 ze) (.slice A' l.length l.length) h0 h1 h2 h3
    exact ⟨_, _, _, _, g0, g1, g2, g3, fun _ => ⟨id, nm, ze, l, A', hl, rfl, rfl, rfl, rfl, ho.set4 g j _ _ _ _ (Nat.lt_succ_self _)⟩⟩
  · obtain ⟨v0, v1, v2, v3, h0, h1, h2, h3, h4⟩ := h.cells j hj
    have O := fun (o : Nat) (ho : o = j * 4 ∨ o = j * 4 + 1 ∨ o = j * 4 + 2 ∨ o = j * 4 + 3) => set4_other w g k (.int .i64 id) (.string nm) (.int .i64 ze) (.slice A' l.length l.length) ⟨g, o, none⟩ (.inr ⟨rfl, by simp only; omega⟩)
    exact ⟨v0, v1, v2, v3, (O _ (by omega)).trans h0, (O _ (by omega)).trans h1, (O _ (by omega)).trans h2, (O _ (by omega)).trans h3, fun hjk => by
      obtain ⟨id', nm', ze', l', A2, hL, e0, e1, e2, e3, ho'⟩ := h4 (by omega)
      exact ⟨id', nm', ze', l', A2, hL, e0, e1, e2, e3, ho'.set4 g k _ _ _ _ (Nat.lt_succ_self _)⟩⟩
theorem fillG_new {w1 : World} {B g n : Nat} {L : List GG} (h : w1.ownsRow B 26 4 (.slice (some ⟨g, 0, none⟩) n n) n (madeCells (Value.agg #[.int .i64 0, .string ⟨#[]⟩, .int .i64 0, .slice none 0 0]).cells (n * 4)).toList) : FillG w1 B g n 0 L := by
  refine ⟨(h.lt g rfl).1, (h.lt g rfl).2, fun j => h.frozenAt j, fun j hj => ?_⟩
  have hl : ∀ o, o < n * 4 → ∃ v, w1.cell? ⟨g, o, none⟩ = some v := fun o ho => by
    rw [h.cellAt o (by omega)]
    have h1 := h.1
    exact ⟨_, List.getElem?_eq_getElem (by omega)⟩
  obtain ⟨v0, h0⟩ := hl (j * 4) (by omega)
  obtain ⟨v1, h1⟩ := hl (j * 4 + 1) (by omega)
  obtain ⟨v2, h2⟩ := hl (j * 4 + 2) (by omega)
  obtain ⟨v3, h3⟩ := hl (j * 4 + 3) (by omega)
  exact ⟨v0, v1, v2, v3, h0, h1, h2, h3, fun hlt => absurd hlt (by omega)⟩
theorem below_set4 {B : Nat} {a w : World} (h : Below B a w) {g : Nat} (hg : B ≤ g) (k : Nat) (v0 v1 v2 v3 : Value) : Below B a (set4 w g k v0 v1 v2 v3) :=
  (((h.setCell (p := ⟨g, k * 4, none⟩) hg v0).setCell (p := ⟨g, k * 4 + 1, none⟩) hg v1).setCell (p := ⟨g, k * 4 + 2, none⟩) hg v2).setCell (p := ⟨g, k * 4 + 3, none⟩) hg v3
theorem gauges_of_fill {w : World} {B g n : Nat} {L : List GG} (h : FillG w B g n n L) (hn : L.length = n) (hb : n + szL L ≤ 1048576) : Gauges w w.heap.size (some ⟨g, 0, none⟩) n L :=
  ⟨hn, fun k hk => by
    obtain ⟨v0, v1, v2, v3, h0, h1, h2, h3, h4⟩ := h.cells k hk
    obtain ⟨id, nm, ze, l, A', hL, rfl, rfl, rfl, rfl, ho⟩ := h4 hk
    have hz := szL_at hL
    dsimp only at hz
    exact ⟨g, 0, id, nm, ze, l, A', l.length, rfl, h.lt, hL, by rw [Nat.zero_add]; exact h0, by rw [Nat.zero_add]; exact h1, by rw [Nat.zero_add]; exact h2, by rw [Nat.zero_add]; exact h3, ho.spots (Nat.le_refl _), by unfold maxLen; omega, by unfold maxLen; omega⟩⟩
def CopyGs (L : List GG) (w : World) (e : Ending) (w' : World) : Prop :=
  ∃ g, e = .returned (.slice (some ⟨g, 0, none⟩) L.length L.length) ∧ FillG w' w.heap.size g L.length L.length L ∧ Below w.heap.size w w'
set_option maxHeartbeats 1600000 in
theorem copyGs_any (A : Option Addr) (n c : Nat) (L : List GG) (w : World) (hs : Gauges w w.heap.size A n L) (hsz : n + szL L ≤ 1048576) :
    Calls Try.prog 75 #[.slice A n c] w (CopyGs L w) := by
  obtain ⟨i0, hi, hz0, hz1, hz2⟩ := info_parts infoGauge
  obtain rfl := hs.1
  have HS := Lib.hid hs
  clear hs
  go_enter Try.func75, Try.ntmps75
  go_wp2_with (at_make; refine wpList_make_full _ rfl _ _ 35 rfl w.heap.size 26 i0 (.agg #[.int .i64 0, .string ⟨#[]⟩, .int .i64 0, .slice none 0 0]) 4 Try.underlying35 hi hz0 hz1 .i64 .i64 _ _ L.length rfl rfl rfl rfl (by rw [hz2]; omega) (by unfold maxLen; omega) (Nat.le_refl _) ?_; intro w1 hown hgrow)
  have HB0 := Lib.hid ((Below.refl w.heap.size w).grown hgrow (Nat.le_refl _) (fun k e => by cases e))
  have HF0 : Hid (FillG w1 w.heap.size w.heap.size L.length 0 L) := fillG_new hown
  clear hown hgrow
  go_loopw [4] (fun i wr => ∃ k : Nat, k ≤ L.length ∧ i = .int .i64 k ∧ Hid (FillG wr w.heap.size w.heap.size L.length k L) ∧ Hid (Below w.heap.size w wr)) (fun i _ => L.length - (intOf i).toNat)
  case atStart => exact ⟨0, Nat.zero_le _, rfl, HF0, HB0⟩
  case round =>
    obtain ⟨k, hk, rfl, hF, hB⟩ := hrel
    by_cases hlt : k < L.length
    · obtain ⟨b, o, id, nm, ze, l, A', c', rfl, hb, hL, c0, c1, c2, c3, hsp, hl, hn⟩ := (gauges_at HS.out hB.out).2 k hlt
      have HK := Lib.hid hL
      have hz := szL_at hL
      dsimp only at hz
      have HSP := Lib.hid hsp
      clear hL hsp
      go_wp2_with fail
      refine (toGauge_any _ _ _ _ _ _ l _ HSP.out (by omega)).mono ?_
      rintro e w1 ⟨g', rfl, hO, hb'⟩
      have HO := Lib.hid (hO.wide (lo' := w.heap.size + 1) (by have := hF.out.lt; omega) (Nat.le_refl _))
      have HF1 := Lib.hid (hF.out.next hb')
      have HB1 := Lib.hid (bthen hB.out hb' hB.out.size)
      clear hO hb' c0 c1 c2 c3
      obtain ⟨v0, v1, v2, v3, h0, h1, h2, h3, _⟩ := HF1.out.cells k hlt
      have f0 := HF1.out.free (k * 4)
      have f1 := HF1.out.free (k * 4 + 1)
      have f2 := HF1.out.free (k * 4 + 2)
      have f3 := HF1.out.free (k * 4 + 3)
      have HF2 := Lib.hid (fillG_step HF1.out hlt HK.out HO.out)
      have HB2 := Lib.hid (below_set4 HB1.out (Nat.le_refl _) k (.int .i64 id) (.string nm) (.int .i64 ze) (.slice (some ⟨g', 0, none⟩) l.length l.length))
      go_wp2_with fail
      go_roundw
      case rel => exact ⟨k + 1, by omega, by go_num, HF2, HB2⟩
      case measure => simp [intOf]; omega
    · obtain rfl : k = L.length := by omega
      have HC : Hid (CopyGs L w (.returned (.slice (some ⟨w.heap.size, 0, none⟩) L.length L.length)) wr) := Lib.hid ⟨_, rfl, hF.out, hB.out⟩
      go_wp2_with fail
      go_ret
      exact HC
/-! ### laws.eqGaugeS -/
set_option maxHeartbeats 1600000 in
theorem eqGs_same (A A' : Option Addr) (n c c' : Nat) (L : List GG) (w : World) (h1 : Gauges w w.heap.size A n L) (h2 : Gauges w w.heap.size A' n L) (hm : n ≤ maxLen) :
    Calls Try.prog 76 #[.slice A n c, .slice A' n c'] w fun e w' => e = .returned (.bool true) ∧ Below w.heap.size w w' := by
  unfold maxLen at hm
  have H1 := Lib.hid h1
  have H2 := Lib.hid h2
  clear h1 h2
  go_enter Try.func76, Try.ntmps76
  go_wp2_with fail
  go_loopw [5] (fun i wr => ∃ k : Nat, k ≤ n ∧ i = .int .i64 k ∧ Hid (Below w.heap.size w wr)) (fun i _ => n - (intOf i).toNat)
  case atStart => exact ⟨0, Nat.zero_le _, rfl, Lib.hid (Below.refl _ _)⟩
  case round =>
    obtain ⟨k, hk, rfl, hB⟩ := hrel
    by_cases hlt : k < n
    · obtain ⟨b1, o1, id, nm, ze, l, A1, c1, rfl, hb1, hL1, p0, p1, p2, p3, hs1, hl1, hn1⟩ := (gauges_at H1.out hB.out).2 k hlt
      obtain ⟨b2, o2, id2, nm2, ze2, l2, A2, c2, rfl, hb2, hL2, q0, q1, q2, q3, hs2, hl2, hn2⟩ := (gauges_at H2.out hB.out).2 k hlt
      have e : (⟨id, nm, ze, l⟩ : GG) = ⟨id2, nm2, ze2, l2⟩ := Option.some.inj (hL1.symm.trans hL2)
      obtain ⟨rfl, rfl, rfl, rfl⟩ := GG.mk.inj e
      have HS1 := Lib.hid hs1
      have HS2 := Lib.hid hs2
      clear hL1 hL2 e hs1 hs2
      obtain ⟨W0, rfl⟩ : ∃ W : World, W = wr := ⟨_, rfl⟩
      go_wp2_with fail
      have lc0 := lcell (p0)
      have lc1 := lcell (p1)
      have lc2 := lcell (p2)
      have lc3 := lcell (p3)
      have lc4 := lcell (q0)
      have lc5 := lcell (q1)
      have lc6 := lcell (q2)
      have lc7 := lcell (q3)
      refine region_later (W := W0) (by kernel_rfl) (by kernel_rfl) (Below.refl _ _) ?_
      repeat (go_big_quiet_step (((go_at_call 145; go_loud (exact later_call (eqG_same _ _ _ _ _ _ _ _ l _ (spots_more HS1.out (Later.below _)) (spots_more HS2.out (Later.below _)) hl1))))))
      refine wpQuiet_nil ?_
      intro W1 hW1
      have HL : Hid (Below W0.heap.size W0 W1) := by obtain ⟨x, rfl⟩ := hW1; exact Lib.hid x.below
      clear hW1 lc0 lc1 lc2 lc3 lc4 lc5 lc6 lc7
      have HT := Lib.hid (bthen hB.out HL.out hB.out.size)
      clear p0 p1 p2 p3 q0 q1 q2 q3
      go_wp2_with fail
      go_roundw
      case rel => exact ⟨k + 1, by omega, by go_num, HT⟩
      case measure => simp [intOf]; omega
    · obtain rfl : k = n := by omega
      go_wp2_with fail
      go_ret
      exact ⟨rfl, hB.out⟩
end Go.Proofs.Ytdmnkmdlochogaa
