/-
  Slices of spots: contracts of laws.szSpotS, laws.toSpotS, laws.eqSpotS over this translation. Conditions: stated at each theorem.
-/
import Derived.Test.YtjnimedbjmihaaaSp
import Derived.Laws.MakeOwn
import Derived.Laws.AppendOwn
import Derived.Laws.OwnMore
import Derived.Sort.Grow
import Derived.Deep.RegionHeld3
namespace Go.Proofs.Ytjnimedbjmihaaa
open Go.RowKit

/-- The slice value with address A and n elements reads as the spots l; its block lies below B. -/
def Spots (w : World) (B : Nat) (A : Option Addr) (n : Nat) (l : List (Int × Int)) : Prop :=
  l.length = n ∧ ∀ k, k < n → ∃ (b o : Nat) (x y : Int), A = some ⟨b, o, none⟩ ∧ b < B ∧ l[k]? = some (x, y) ∧
    w.cell? ⟨b, o + k * 2, none⟩ = some (.int .i64 x) ∧ w.cell? ⟨b, o + k * 2 + 1, none⟩ = some (.int .i64 y)
theorem Spots.on {w w' : World} {B B' n : Nat} {A : Option Addr} {l : List (Int × Int)} (h : Spots w B A n l) (hb : Below B' w w') (hB : B ≤ B') : Spots w' B A n l :=
  ⟨h.1, fun k hk => by
    obtain ⟨b, o, x, y, hA, hlt, hl, h0, h1⟩ := h.2 k hk
    exact ⟨b, o, x, y, hA, hlt, hl, (hb.cell (p := ⟨b, _, none⟩) (Nat.lt_of_lt_of_le hlt hB)).trans h0, (hb.cell (p := ⟨b, _, none⟩) (Nat.lt_of_lt_of_le hlt hB)).trans h1⟩⟩

/-! ### laws.szSpotS -/
theorem sz_neg (A : Option Addr) (n c : Nat) (w : World) (hn : (1048576 : Int) < n) (hm : n ≤ maxLen) :
    Calls Try.prog 45 #[.slice A n c, .int .i64 1048576] w fun e w' => e = .returned (.int .i64 (-1)) ∧ w = w' := by
  unfold maxLen at hm
  go_enter Try.func45, Try.ntmps45
  go_wp2
  go_ret
  exact ⟨rfl, rfl⟩
theorem sz_pos (A : Option Addr) (n c : Nat) (w : World) (hn : n ≤ 1048576) :
    Calls Try.prog 45 #[.slice A n c, .int .i64 1048576] w fun e w' => e = .returned (.int .i64 ((1048576 - n : Nat) : Int)) ∧ w = w' := by
  have H : Hid (((1048576 - n : Nat) : Int) = 1048576 - (n : Int)) := by unfold Hid; omega
  go_enter Try.func45, Try.ntmps45
  go_wp2
  go_ret
  exact ⟨ret_int H.out.symm, rfl⟩

/-! ### laws.toSpotS -/
theorem infoSpot : (Try.prog.info? 26).map (fun i => (i.zero, i.size, i.bytes)) = some (some (.agg #[.int .i64 0, .int .i64 0]), 2, 16) := by kernel_rfl
/-- Block g holds n spots, the first k of which are those of l; it may be written. -/
structure Fill (w : World) (B g n k : Nat) (l : List (Int × Int)) : Prop where
  low : B ≤ g
  lt : g < w.heap.size
  free : ∀ j, w.frozen? ⟨g, j, none⟩ = false
  cells : ∀ j, j < n → ∃ x y : Int, w.cell? ⟨g, j * 2, none⟩ = some (.int .i64 x) ∧ w.cell? ⟨g, j * 2 + 1, none⟩ = some (.int .i64 y) ∧ (j < k → l[j]? = some (x, y))
theorem Fill.next {w w' : World} {B g n k : Nat} {l : List (Int × Int)} (h : Fill w B g n k l) (hb : Below w.heap.size w w') : Fill w' B g n k l :=
  ⟨h.low, Nat.lt_of_lt_of_le h.lt hb.size, fun j => (hb.frozen (p := ⟨g, j, none⟩) h.lt).trans (h.free j), fun j hj => by
    obtain ⟨x, y, h0, h1, h2⟩ := h.cells j hj
    exact ⟨x, y, (hb.cell (p := ⟨g, _, none⟩) h.lt).trans h0, (hb.cell (p := ⟨g, _, none⟩) h.lt).trans h1, h2⟩⟩
theorem fill_step {w : World} {B g n k : Nat} {l : List (Int × Int)} {x y : Int} (h : Fill w B g n k l) (hk : k < n) (hl : l[k]? = some (x, y)) :
    Fill ((w.setCell ⟨g, k * 2, none⟩ (.int .i64 x)).setCell ⟨g, k * 2 + 1, none⟩ (.int .i64 y)) B g n (k + 1) l := by
  refine ⟨h.low, by simpa [World.setCell] using h.lt, fun j => (World.frozen?_setCell _ _ _ _).trans ((World.frozen?_setCell _ _ _ _).trans (h.free j)), fun j hj => ?_⟩
  obtain ⟨a, b, h0, h1, h2⟩ := h.cells j hj
  by_cases e : j = k
  · subst e
    refine ⟨x, y, ?_, ?_, fun _ => hl⟩
    · exact (World.cell?_setCell_other _ _ _ _ (by simp)).trans (World.cell?_setCell_same _ _ _ h0)
    · exact World.cell?_setCell_same _ _ _ ((World.cell?_setCell_other _ _ _ _ (by simp)).trans h1)
  · refine ⟨a, b, ?_, ?_, fun hlt => h2 (by omega)⟩
    · exact (World.cell?_setCell_other _ _ _ _ (by simp; try omega)).trans ((World.cell?_setCell_other _ _ _ _ (by simp; try omega)).trans h0)
    · exact (World.cell?_setCell_other _ _ _ _ (by simp; try omega)).trans ((World.cell?_setCell_other _ _ _ _ (by simp; try omega)).trans h1)
theorem fill_new {w1 : World} {B g n : Nat} {l : List (Int × Int)} (h : w1.ownsRow B 26 2 (.slice (some ⟨g, 0, none⟩) n n) n (madeCells (Value.agg #[.int .i64 0, .int .i64 0]).cells (n * 2)).toList) : Fill w1 B g n 0 l := by
  refine ⟨(h.lt g rfl).1, (h.lt g rfl).2, fun j => h.frozenAt j, fun j hj => ⟨0, 0, ?_, ?_, fun hlt => absurd hlt (by omega)⟩⟩
  · rw [h.cellAt (j * 2) (by omega)]
    simp [madeCells, Value.cells, show j * 2 < n * 2 by omega]
  · rw [h.cellAt (j * 2 + 1) (by omega)]
    simp [madeCells, Value.cells, show j * 2 + 1 < n * 2 by omega, show (j * 2 + 1) % 2 = 1 by omega]
/-- What laws.toSpotS hands back: a new row of the same spots. -/
def CopyPost (l : List (Int × Int)) (w : World) (e : Ending) (w' : World) : Prop :=
  ∃ g, e = .returned (.slice (some ⟨g, 0, none⟩) l.length l.length) ∧ Fill w' w.heap.size g l.length l.length l ∧ Below w.heap.size w w'
set_option maxHeartbeats 800000 in
theorem copy_any (A : Option Addr) (n c : Nat) (l : List (Int × Int)) (w : World) (hs : Spots w w.heap.size A n l) (hn : n ≤ 1048576) :
    Calls Try.prog 46 #[.slice A n c] w (CopyPost l w) := by
  obtain ⟨i0, hi, hz0, hz1, hz2⟩ := info_parts infoSpot
  have HL := Lib.hid hs.1
  go_enter Try.func46, Try.ntmps46
  go_wp2_with (at_make; refine wpList_make_full _ rfl _ _ 24 rfl w.heap.size 26 i0 (.agg #[.int .i64 0, .int .i64 0]) 2 Try.underlying24 hi hz0 hz1 .i64 .i64 _ _ n rfl rfl rfl rfl (by rw [hz2]; omega) (by unfold maxLen; omega) (Nat.le_refl _) ?_; intro w1 hown hgrow)
  have HB0 := Lib.hid ((Below.refl w.heap.size w).grown hgrow (Nat.le_refl _) (fun k e => by cases e))
  have HF0 : Hid (Fill w1 w.heap.size w.heap.size n 0 l) := fill_new hown
  clear hown hgrow
  go_loopw [4] (fun i wr => ∃ k : Nat, k ≤ n ∧ i = .int .i64 k ∧ Hid (Fill wr w.heap.size w.heap.size n k l) ∧ Hid (Below w.heap.size w wr)) (fun i _ => n - (intOf i).toNat)
  case atStart => exact ⟨0, Nat.zero_le _, rfl, HF0, HB0⟩
  case round =>
    obtain ⟨k, hk, rfl, hF, hB⟩ := hrel
    by_cases hlt : k < n
    · obtain ⟨b, o, x, y, rfl, hbl, hlk, hc0, hc1⟩ := (hs.on hB.out (Nat.le_refl _)).2 k hlt
      have HK := Lib.hid hlk
      clear hlk
      go_wp2_with fail
      refine (toSpot_any x y _).mono ?_
      rintro e w1 ⟨rfl, hb⟩
      have HF1 := Lib.hid (hF.out.next hb)
      have HB1 := Lib.hid (bthen hB.out hb hB.out.size)
      clear hb
      obtain ⟨x', y', h0, h1, _⟩ := HF1.out.cells k hlt
      have f0 := HF1.out.free (k * 2)
      have f1 := HF1.out.free (k * 2 + 1)
      have HF2 := Lib.hid (fill_step HF1.out hlt HK.out)
      have HB2 := Lib.hid ((HB1.out.setCell (p := ⟨w.heap.size, k * 2, none⟩) (Nat.le_refl _) (.int .i64 x)).setCell (p := ⟨w.heap.size, k * 2 + 1, none⟩) (Nat.le_refl _) (.int .i64 y))
      clear hc0 hc1
      go_wp2_with fail
      go_roundw
      case rel => exact ⟨k + 1, by omega, by go_num, HF2, HB2⟩
      case measure => simp [intOf]; omega
    · obtain rfl : k = n := by omega
      have HC : Hid (CopyPost l w (.returned (.slice (some ⟨w.heap.size, 0, none⟩) k k)) wr) := by
        have e := HL.out
        subst e
        exact ⟨_, rfl, hF.out, hB.out⟩
      go_wp2
      go_ret
      exact HC

theorem spots_of_fill {w : World} {B g n : Nat} {l : List (Int × Int)} (h : Fill w B g n n l) (hn : l.length = n) : Spots w w.heap.size (some ⟨g, 0, none⟩) n l :=
  ⟨hn, fun k hk => by
    obtain ⟨x, y, h0, h1, h2⟩ := h.cells k hk
    exact ⟨g, 0, x, y, rfl, h.lt, h2 hk, by rw [Nat.zero_add]; exact h0, by rw [Nat.zero_add]; exact h1⟩⟩
theorem spots_more {w w' : World} {n : Nat} {A : Option Addr} {l : List (Int × Int)} (h : Spots w w.heap.size A n l) (hb : Below w.heap.size w w') : Spots w' w'.heap.size A n l :=
  ⟨h.1, fun k hk => by
    obtain ⟨b, o, x, y, hA, hlt, hl, h0, h1⟩ := (h.on hb (Nat.le_refl _)).2 k hk
    exact ⟨b, o, x, y, hA, Nat.lt_of_lt_of_le hlt hb.size, hl, h0, h1⟩⟩
/-! ### laws.eqSpotS -/
theorem eqSpot_same (x y : Int) (w : World) :
    Calls Try.prog 74 #[.agg #[.int .i64 x, .int .i64 y], .agg #[.int .i64 x, .int .i64 y]] w fun e w' => e = .returned (.bool true) ∧ Below w.heap.size w w' := by
  go_enter Try.func74, Try.ntmps74
  go_wp2
  go_ret
  refine ⟨rfl, ?_⟩
  repeat (first | exact Below.refl _ _ | refine Below.alloc ?_ (by simp; try omega) _)
theorem kept_next {w W W1 : World} {b1 o1 b2 o2 k : Nat} {x y : Int} (hb : Below W.heap.size W W1) (h : W.cell? ⟨b1, o1 + k * 2, none⟩ = some (.int .i64 x) ∧ W.cell? ⟨b1, o1 + k * 2 + 1, none⟩ = some (.int .i64 y) ∧ W.cell? ⟨b2, o2 + k * 2, none⟩ = some (.int .i64 x) ∧ W.cell? ⟨b2, o2 + k * 2 + 1, none⟩ = some (.int .i64 y) ∧ Hid (Below w.heap.size w W)) (h1 : b1 < w.heap.size) (h2 : b2 < w.heap.size) :
    W1.cell? ⟨b1, o1 + k * 2, none⟩ = some (.int .i64 x) ∧ W1.cell? ⟨b1, o1 + k * 2 + 1, none⟩ = some (.int .i64 y) ∧ W1.cell? ⟨b2, o2 + k * 2, none⟩ = some (.int .i64 x) ∧ W1.cell? ⟨b2, o2 + k * 2 + 1, none⟩ = some (.int .i64 y) ∧ Hid (Below w.heap.size w W1) := by
  have hz := h.2.2.2.2.out.size
  exact ⟨(hb.cell (p := ⟨b1, _, none⟩) (by simp; omega)).trans h.1, (hb.cell (p := ⟨b1, _, none⟩) (by simp; omega)).trans h.2.1, (hb.cell (p := ⟨b2, _, none⟩) (by simp; omega)).trans h.2.2.1, (hb.cell (p := ⟨b2, _, none⟩) (by simp; omega)).trans h.2.2.2.1, Lib.hid (bthen h.2.2.2.2.out hb hz)⟩
set_option maxHeartbeats 800000 in
theorem eq_same (A A' : Option Addr) (n c c' : Nat) (l : List (Int × Int)) (w : World) (h1 : Spots w w.heap.size A n l) (h2 : Spots w w.heap.size A' n l) (hm : n ≤ maxLen) :
    Calls Try.prog 47 #[.slice A n c, .slice A' n c'] w fun e w' => e = .returned (.bool true) ∧ Below w.heap.size w w' := by
  unfold maxLen at hm
  go_enter Try.func47, Try.ntmps47
  go_wp2
  go_loopw [5] (fun i wr => ∃ k : Nat, k ≤ n ∧ i = .int .i64 k ∧ Hid (Below w.heap.size w wr)) (fun i _ => n - (intOf i).toNat)
  case atStart => exact ⟨0, Nat.zero_le _, rfl, Lib.hid (Below.refl _ _)⟩
  case round =>
    obtain ⟨k, hk, rfl, hB⟩ := hrel
    by_cases hlt : k < n
    · obtain ⟨b1, o1, x, y, rfl, hb1, hl1, hc0, hc1⟩ := (h1.on hB.out (Nat.le_refl _)).2 k hlt
      obtain ⟨b2, o2, x2, y2, rfl, hb2, hl2, hd0, hd1⟩ := (h2.on hB.out (Nat.le_refl _)).2 k hlt
      have e : (x, y) = (x2, y2) := Option.some.inj (hl1.symm.trans hl2)
      obtain ⟨rfl, rfl⟩ := Prod.mk.inj e
      clear hl1 hl2 e
      go_wp2_with fail
      go_region_held3 (fun W => W.cell? ⟨b1, o1 + k * 2, none⟩ = some (.int .i64 x) ∧ W.cell? ⟨b1, o1 + k * 2 + 1, none⟩ = some (.int .i64 y) ∧ W.cell? ⟨b2, o2 + k * 2, none⟩ = some (.int .i64 x) ∧ W.cell? ⟨b2, o2 + k * 2 + 1, none⟩ = some (.int .i64 y) ∧ Hid (Below w.heap.size w W)) (first | (exact ⟨hc0, hc1, hd0, hd1, Lib.hid hB.out.drew⟩) | assumption | (exact kept_next hb (by assumption) hb1 hb2)) ((go_at_call 74; refine (eqSpot_same _ _ _).mono ?_; rintro e w1 ⟨rfl, hb⟩; dsimp only))
      all_goals go_wp2
      all_goals go_roundw
      case rel => exact ⟨k + 1, by omega, by go_num, by first | assumption | (exact (show _ ∧ _ ∧ _ ∧ _ ∧ _ by assumption).2.2.2.2)⟩
      case measure => simp [intOf]; omega
    · obtain rfl : k = n := by omega
      go_wp2
      go_ret
      exact ⟨rfl, hB.out⟩
end Go.Proofs.Ytjnimedbjmihaaa
