/-
  Casts within a bound: contracts of slices.Grow, slices.Concat at two rows of layers, SameLayers of spec and impl over this translation. Conditions: stated at each theorem.
-/
import Derived.Test.YtdmnkmdlochogabZj
import Derived.Test.YtdmnkmdlochogabZx
import Derived.Lib.AppendZerosOnto
namespace Go.Proofs.Ytdmnkmdlochogab
open Go.RowKit
set_option linter.unusedVariables false

/-- A new row with room, nothing in it. -/
def GrownK (w : World) (e : Ending) (w' : World) : Prop :=
  ∃ cap, e = .returned (.slice (some ⟨w.heap.size, 0, none⟩) 0 cap) ∧ w'.ownsRow w.heap.size 140 2 (.slice (some ⟨w.heap.size, 0, none⟩) 0 cap) 0 [] ∧ Below w.heap.size w w'
set_option maxHeartbeats 1600000 in
theorem growK_any (n : Nat) (w : World) (h0 : 0 < n) (hn : n ≤ 1000) :
    Calls Try.prog 177 #[.slice none 0 0, .int .i64 n] w (GrownK w) := by
  obtain ⟨i0, hi, hz0, hz1, hz2⟩ := info_parts infoLayer2
  have hrz : ∀ ty, (Builtin.append_ #[62, 3] ty #[.slice none 0 0, .int .i64 (n : Int)]).run Try.prog w =
      .ok (.slice (some ⟨w.heap.size, 0, none⟩) (0 + n) (grownCap w (0 + n) 0 140)) (w.drew.alloc (.cells (#[] ++ Builtin.zeroCells (Value.agg #[.int .i64 0, .int .i64 0]).cells n ++ Builtin.zeroCells (Value.agg #[.int .i64 0, .int .i64 0]).cells (grownCap w (0 + n) 0 140 - (0 + n))) 140)) := fun ty =>
    Lib.run_append_grow_zeros w 62 3 ty 140 i0 _ .i64 .i64 Try.underlying62 Try.underlying3 hi hz0 none 0 0 [] (run_firstCells_none w.drew i0.size 0 0 0) n h0 (by rw [hz1]; decide) (by omega) (by omega) (by rw [hz2]; omega)
      (by rw [hz2]; exact growslice_fits (by omega) (by omega))
  obtain ⟨C, hC⟩ : ∃ C, C = #[] ++ Builtin.zeroCells (Value.agg #[.int .i64 0, .int .i64 0]).cells n ++ Builtin.zeroCells (Value.agg #[.int .i64 0, .int .i64 0]).cells (grownCap w (0 + n) 0 140 - (0 + n)) := ⟨_, rfl⟩
  have hGn : 0 + n ≤ grownCap w (0 + n) 0 140 := grownCap_ge w _ _ _
  have hGm : grownCap w (0 + n) 0 140 ≤ maxLen := grownCap_le_maxLen w (0 + n) 0 140 (by unfold maxLen; omega)
  obtain ⟨G, hG⟩ : ∃ G, G = grownCap w (0 + n) 0 140 := ⟨_, rfl⟩
  rw [← hG] at hC hGn hGm
  rw [← hG] at hrz
  rw [← hC] at hrz
  have hsz : C.size = G * 2 := by
    rw [hC]
    simp [size_zeroCells, Value.cells]
    omega
  have HP : Hid (GrownK w (.returned (.slice (some ⟨w.heap.size, 0, none⟩) 0 G)) (w.drew.alloc (.cells C 140))) :=
    Lib.hid ⟨G, rfl, World.ownsRow_made w.drew C G (Nat.le_refl _) hGm hsz, ((Below.refl _ _).drew).alloc (Nat.le_refl _) _⟩
  rw [Nat.zero_add] at hrz
  have hG63 : G ≤ 9223372036854775807 := by unfold maxLen at hGm; omega
  clear hC hG hsz hGm hi hz0 hz1 hz2
  go_enter Try.func177, Try.ntmps177
  go_wp2_with (at_builtin; refine Lib.wpList_append_run _ rfl _ _ _ _ rfl _ _ rfl rfl _ _ (hrz _) ?_)
  go_ret
  exact HP.out
/-! ### slices.Concat -/
def CSK (w : World) (L : List (Int × Int)) (v : Value) (wr : World) : Prop := wr.ownsRow w.heap.size 140 2 v L.length (cells2 L) ∧ Below w.heap.size w wr
theorem csk_step {w wr w5 : World} {L l : List (Int × Int)} {v v' : Value} (h : CSK w L v wr) (ho : w5.ownsRow w.heap.size 140 2 v' (L.length + l.length) (cells2 L ++ cells2 l)) (hg : wr.grownBy w5 v.ownBlock) : CSK w (L ++ l) v' w5 :=
  ⟨by rw [List.length_append, cells2_catJ]; exact ho, h.2.grown hg h.2.size (fun k e => (h.1.lt k e).1)⟩
def CatK (l : List (Int × Int)) (w : World) (e : Ending) (w' : World) : Prop :=
  ∃ A c, e = .returned (.slice A l.length c) ∧ Spots w' w'.heap.size A l.length l ∧ Below w.heap.size w w'
set_option maxRecDepth 20000 in
set_option maxHeartbeats 3200000 in
theorem concatK_any (p : Nat) (A1 A2 : Option Addr) (l1 l2 : List (Int × Int)) (c1 c2 cp : Nat) (w : World) (h0 : w.cell? ⟨p, 0, none⟩ = some (.slice A1 l1.length c1)) (h1 : w.cell? ⟨p, 1, none⟩ = some (.slice A2 l2.length c2))
    (hs1 : Spots w w.heap.size A1 l1.length l1) (hs2 : Spots w w.heap.size A2 l2.length l2) (hn1 : l1.length ≤ 8) (hn2 : l2.length ≤ 8) (hp1 : 0 < l1.length) (hp2 : 0 < l2.length) :
    Calls Try.prog 134 #[.slice (some ⟨p, 0, none⟩) 2 cp] w (CatK (l1 ++ l2) w) := by
  obtain ⟨i0, hi, hz0, hz1, hz2⟩ := info_parts infoLayer2
  have HI := Lib.hid (And.intro hi (And.intro hz0 (And.intro hz1 hz2)))
  clear hi hz0 hz1 hz2
  have HS1 := Lib.hid hs1
  have HS2 := Lib.hid hs2
  clear hs1 hs2
  go_enter Try.func134, Try.ntmps134
  go_wp2_with fail
  go_loop [3, 11] (fun s i => (i = .int .i64 0 ∧ s = .int .i64 0) ∨ (i = .int .i64 1 ∧ s = .int .i64 (l1.length : Int)) ∨ (i = .int .i64 2 ∧ s = .int .i64 ((l1.length : Int) + l2.length))) (fun _ i => 2 - (intOf i).toNat)
  case atStart => exact .inl ⟨rfl, rfl⟩
  case round =>
    rcases hrel with ⟨rfl, rfl⟩ | ⟨rfl, rfl⟩ | ⟨rfl, rfl⟩
    · go_wp2_with fail
      go_round
      case rel => exact .inr (.inl ⟨rfl, by first | rfl | simp⟩)
      case measure => simp [intOf]
    · go_wp2_with fail
      go_round
      case rel => exact .inr (.inr ⟨rfl, rfl⟩)
      case measure => simp [intOf]
    · have e3 : (l1.length : Int) + l2.length = ((l1.length + l2.length : Nat) : Int) := by omega
      rw [e3]
      have HG := Lib.hid (growK_any (l1.length + l2.length) w (by omega) (by omega))
      clear e3
      go_wp2_with fail
      refine HG.out.mono ?_
      rintro e w1 ⟨cap, rfl, hown, hb⟩
      have HO := Lib.hid hown
      have HB := Lib.hid hb
      clear hown hb
      go_wp2_with fail
      have HC0 : Hid (CSK w [] (.slice (some ⟨w.heap.size, 0, none⟩) 0 cap) w1) := Lib.hid ⟨HO.out, HB.out⟩
      go_loopw [6, 27] (fun s i wr => (i = .int .i64 0 ∧ Hid (CSK w [] s wr)) ∨ (i = .int .i64 1 ∧ Hid (CSK w l1 s wr)) ∨ (i = .int .i64 2 ∧ Hid (CSK w (l1 ++ l2) s wr))) (fun _ i _ => 2 - (intOf i).toNat)
      case atStart => exact .inl ⟨rfl, HC0⟩
      case round =>
        rcases hrel with ⟨rfl, HC⟩ | ⟨rfl, HC⟩ | ⟨rfl, HC⟩
        · have h0' := cell_next HC.out.2 h0
          obtain ⟨b, o, rfl, hcs⟩ := spots_part (spots_at HS1.out HC.out.2) hp1
          have HA := Lib.hid hcs
          clear hcs
          go_wp2_with (at_builtin; go_loud (refine wpList_append_own _ rfl _ _ 62 rfl w.heap.size 140 i0 (.agg #[.int .i64 0, .int .i64 0]) 2 16 Try.underlying62 HI.out.1 HI.out.2.1 HI.out.2.2.1 HI.out.2.2.2 rfl (by decide) _ _ _ rfl HC.out.1 ⟨b, o, none⟩ l1.length c1 (cells2 l1) rfl (cells2_len l1) HA.out (cells2_oneJ l1) (by simp only [List.length_nil]; unfold maxLen; omega) (by simp only [List.length_nil]; omega) HC.out.2.size ?_; intro v' w5 hown' hgrow _; have HN := Lib.hid (csk_step HC.out hown' hgrow); clear hown' hgrow))
          go_roundw
          case rel => exact .inr (.inl ⟨rfl, HN⟩)
          case measure => simp [intOf]
        · have h1' := cell_next HC.out.2 h1
          obtain ⟨b, o, rfl, hcs⟩ := spots_part (spots_at HS2.out HC.out.2) hp2
          have HA := Lib.hid hcs
          clear hcs
          go_wp2_with (at_builtin; go_loud (refine wpList_append_own _ rfl _ _ 62 rfl w.heap.size 140 i0 (.agg #[.int .i64 0, .int .i64 0]) 2 16 Try.underlying62 HI.out.1 HI.out.2.1 HI.out.2.2.1 HI.out.2.2.2 rfl (by decide) _ _ _ rfl HC.out.1 ⟨b, o, none⟩ l2.length c2 (cells2 l2) rfl (cells2_len l2) HA.out (cells2_oneJ l2) (by unfold maxLen; omega) (by omega) HC.out.2.size ?_; intro v' w5 hown' hgrow _; have HN := Lib.hid (csk_step HC.out hown' hgrow); clear hown' hgrow))
          go_roundw
          case rel => exact .inr (.inr ⟨rfl, HN⟩)
          case measure => simp [intOf]
        · obtain ⟨A, cc, rfl⟩ := own_slice HC.out.1
          have HP : Hid (CatK (l1 ++ l2) w (.returned (.slice A (l1 ++ l2).length cc)) wr) := Lib.hid ⟨A, cc, rfl, (own2_of_row HC.out.1 rfl).spots (Nat.le_refl _), HC.out.2⟩
          go_wp2_with fail
          go_ret
          exact HP.out
end Go.Proofs.Ytdmnkmdlochogab
