/-
  Strata: contracts of laws.szStratumS, toStratum, toStratumS, eqStratum, eqStratumS, markStratumS, heldStratumS over this translation. Conditions: stated at each theorem.
-/
import Derived.Test.YtdmnkmdlochogabRd
namespace Go.Proofs.Ytdmnkmdlochogab
open Go.RowKit

theorem toStratum_any (x y : Int) (w : World) :
    Calls Try.prog 149 #[.agg #[.int .i64 x, .int .i64 y]] w fun e w' => e = .returned (.agg #[.int .i64 x, .int .i64 y]) ∧ Below w.heap.size w w' := by
  go_enter Try.func149, Try.ntmps149
  go_wp2
  refine bodyPost_ret (v := .agg #[.int .i64 x, .int .i64 y]) (by simp [results, Try.results149, go_sem]) rfl ⟨rfl, ?_⟩
  repeat (first | exact Below.refl _ _ | refine Below.setCell ?_ (by simp; try omega) _ | refine Below.alloc ?_ (by simp; try omega) _)
/-! ### laws.szStratumS -/
theorem szY_neg (A : Option Addr) (n c : Nat) (m : Int) (w : World) (h0 : 0 ≤ m) (h1 : m ≤ 1048576) (hn : m < n) (hm : n ≤ maxLen) :
    Calls Try.prog 74 #[.slice A n c, .int .i64 m] w fun e w' => e = .returned (.int .i64 (-1)) ∧ w = w' := by
  unfold maxLen at hm
  go_enter Try.func74, Try.ntmps74
  go_wp2
  go_ret
  exact ⟨rfl, rfl⟩
theorem szY_pos (A : Option Addr) (n c : Nat) (m : Int) (w : World) (h1 : m ≤ 1048576) (hn : (n : Int) ≤ m) :
    Calls Try.prog 74 #[.slice A n c, .int .i64 m] w fun e w' => e = .returned (.int .i64 (m - n)) ∧ w = w' := by
  go_enter Try.func74, Try.ntmps74
  go_wp2
  go_ret
  exact ⟨rfl, rfl⟩
/-! ### laws.toStratumS -/
theorem infoStratum : (Try.prog.info? 125).map (fun i => (i.zero, i.size, i.bytes)) = some (some (.agg #[.int .i64 0, .int .i64 0]), 2, 16) := by kernel_rfl
theorem fillY_new {w1 : World} {B g n : Nat} {l : List (Int × Int)} (h : w1.ownsRow B 125 2 (.slice (some ⟨g, 0, none⟩) n n) n (madeCells (Value.agg #[.int .i64 0, .int .i64 0]).cells (n * 2)).toList) : Fill w1 B g n 0 l := by
  refine ⟨(h.lt g rfl).1, (h.lt g rfl).2, fun j => h.frozenAt j, fun j hj => ⟨0, 0, ?_, ?_, fun hlt => absurd hlt (by omega)⟩⟩
  · rw [h.cellAt (j * 2) (by omega)]
    simp [madeCells, Value.cells, show j * 2 < n * 2 by omega]
  · rw [h.cellAt (j * 2 + 1) (by omega)]
    simp [madeCells, Value.cells, show j * 2 + 1 < n * 2 by omega, show (j * 2 + 1) % 2 = 1 by omega]
set_option maxHeartbeats 800000 in
theorem copyY_any (A : Option Addr) (n c : Nat) (l : List (Int × Int)) (w : World) (hs : Spots w w.heap.size A n l) (hn : n ≤ 1048576) :
    Calls Try.prog 75 #[.slice A n c] w (CopyR l w) := by
  obtain ⟨i0, hi, hz0, hz1, hz2⟩ := info_parts infoStratum
  have HL := Lib.hid hs.1
  go_enter Try.func75, Try.ntmps75
  go_wp2_with (at_make; refine wpList_make_full _ rfl _ _ 45 rfl w.heap.size 125 i0 (.agg #[.int .i64 0, .int .i64 0]) 2 Try.underlying45 hi hz0 hz1 .i64 .i64 _ _ n rfl rfl rfl rfl (by rw [hz2]; omega) (by unfold maxLen; omega) (Nat.le_refl _) ?_; intro w1 hown hgrow)
  have HB0 := Lib.hid ((Below.refl w.heap.size w).grown hgrow (Nat.le_refl _) (fun k e => by cases e))
  have HF0 : Hid (Fill w1 w.heap.size w.heap.size n 0 l) := fillY_new hown
  clear hown hgrow
  go_loopw [4] (fun i wr => ∃ k : Nat, k ≤ n ∧ i = .int .i64 k ∧ Hid (Fill wr w.heap.size w.heap.size n k l) ∧ Hid (Below w.heap.size w wr)) (fun i _ => n - (intOf i).toNat)
  case atStart => exact ⟨0, Nat.zero_le _, rfl, HF0, HB0⟩
  case round =>
    obtain ⟨k, hk, rfl, hF, hB⟩ := hrel
    by_cases hlt : k < n
    · obtain ⟨b, o, x, y, rfl, hbl, hlk, hc0, hc1⟩ := (hs.on hB.out (Nat.le_refl _)).2 k hlt
      have HK := Lib.hid hlk
      clear hlk
      go_wp2_with fail
      refine (toStratum_any x y _).mono ?_
      rintro e w1 ⟨rfl, hb⟩
      have HF1 := Lib.hid (hF.out.next hb)
      have HB1 := Lib.hid (bthen hB.out hb hB.out.size)
      clear hb
      obtain ⟨x', y', h0, h1, _⟩ := HF1.out.cells k hlt
      have f0 := HF1.out.free (k * 2)
      have f1 := HF1.out.free (k * 2 + 1)
      have HF2 := Lib.hid (fill_step HF1.out hlt HK.out)
      have HB2 := Lib.hid ((HB1.out.setCell (p := ⟨w.heap.size, k * 2, none⟩) (Nat.le_refl _) (.int .i64 x)).setCell (p := ⟨w.heap.size, k * 2 + 1, none⟩) (Nat.le_refl _) (.int .i64 y))
      clear hc0 hc1
      go_wp2_with fail
      go_roundw
      case rel => exact ⟨k + 1, by omega, by go_num, HF2, HB2⟩
      case measure => simp [intOf]; omega
    · obtain rfl : k = n := by omega
      have HC : Hid (CopyR l w (.returned (.slice (some ⟨w.heap.size, 0, none⟩) k k)) wr) := by
        have e := HL.out
        subst e
        exact ⟨_, rfl, own2_of_fill hF.out rfl, hB.out⟩
      go_wp2
      go_ret
      exact HC
/-! ### laws.eqStratumS -/
theorem eqStratum_same (x y : Int) (w : World) :
    Calls Try.prog 150 #[.agg #[.int .i64 x, .int .i64 y], .agg #[.int .i64 x, .int .i64 y]] w fun e w' => e = .returned (.bool true) ∧ Below w.heap.size w w' := by
  go_enter Try.func150, Try.ntmps150
  go_wp2
  go_ret
  refine ⟨rfl, ?_⟩
  repeat (first | exact Below.refl _ _ | refine Below.alloc ?_ (by simp; try omega) _)
set_option maxHeartbeats 800000 in
theorem eqY_same (A A' : Option Addr) (n c c' : Nat) (l : List (Int × Int)) (w : World) (h1 : Spots w w.heap.size A n l) (h2 : Spots w w.heap.size A' n l) (hm : n ≤ maxLen) :
    Calls Try.prog 76 #[.slice A n c, .slice A' n c'] w fun e w' => e = .returned (.bool true) ∧ Below w.heap.size w w' := by
  unfold maxLen at hm
  go_enter Try.func76, Try.ntmps76
  go_wp2
  go_loopw [5] (fun i wr => ∃ k : Nat, k ≤ n ∧ i = .int .i64 k ∧ Hid (Below w.heap.size w wr)) (fun i _ => n - (intOf i).toNat)
  case atStart => exact ⟨0, Nat.zero_le _, rfl, Lib.hid (Below.refl _ _)⟩
  case round =>
    obtain ⟨k, hk, rfl, hB⟩ := hrel
    by_cases hlt : k < n
    · obtain ⟨b1, o1, x, y, rfl, hb1, hl1, hc0, hc1⟩ := (h1.on hB.out (Nat.le_refl _)).2 k hlt
      obtain ⟨b2, o2, x2, y2, rfl, hb2, hl2, hd0, hd1⟩ := (h2.on hB.out (Nat.le_refl _)).2 k hlt
      have e : (x, y) = (x2, y2) := Option.some.inj (hl1.symm.trans hl2)
      obtain ⟨rfl, rfl⟩ := Prod.mk.inj e
      clear hl1 hl2 e
      go_wp2_with fail
      go_region_held3 (fun W => W.cell? ⟨b1, o1 + k * 2, none⟩ = some (.int .i64 x) ∧ W.cell? ⟨b1, o1 + k * 2 + 1, none⟩ = some (.int .i64 y) ∧ W.cell? ⟨b2, o2 + k * 2, none⟩ = some (.int .i64 x) ∧ W.cell? ⟨b2, o2 + k * 2 + 1, none⟩ = some (.int .i64 y) ∧ Hid (Below w.heap.size w W)) (first | (exact ⟨hc0, hc1, hd0, hd1, Lib.hid hB.out.drew⟩) | assumption | (exact kept_next hb (by assumption) hb1 hb2)) ((go_at_call 150; refine (eqStratum_same _ _ _).mono ?_; rintro e w1 ⟨rfl, hb⟩; dsimp only))
      all_goals go_wp2
      all_goals go_roundw
      case rel => exact ⟨k + 1, by omega, by go_num, by first | assumption | (exact (show _ ∧ _ ∧ _ ∧ _ ∧ _ by assumption).2.2.2.2)⟩
      case measure => simp [intOf]; omega
    · obtain rfl : k = n := by omega
      go_wp2
      go_ret
      exact ⟨rfl, hB.out⟩
end Go.Proofs.Ytdmnkmdlochogab
