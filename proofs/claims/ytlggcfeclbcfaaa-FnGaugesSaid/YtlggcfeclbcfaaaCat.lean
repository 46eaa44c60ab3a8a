/-
  Contracts of slices.Grow at the nil slice and of slices.Concat at three rows of readings over this translation. Conditions: stated at each theorem.
-/
import Derived.Test.YtlggcfeclbcfaaaPlace
import Derived.Lib.AppendZerosOnto
namespace Go.Proofs.Ytlggcfeclbcfaaa
open Go.RowKit

theorem infoReading3 : (Try.prog.info? 28).map (fun i => (i.zero, i.size, i.bytes)) = some (some (.agg #[.int .i64 0, .int .i64 0]), 2, 16) := by kernel_rfl
/-- A new row with room, nothing in it. -/
def GrownPost (w : World) (e : Ending) (w' : World) : Prop :=
  ∃ cap, e = .returned (.slice (some ⟨w.heap.size, 0, none⟩) 0 cap) ∧ w'.ownsRow w.heap.size 28 2 (.slice (some ⟨w.heap.size, 0, none⟩) 0 cap) 0 [] ∧ Below w.heap.size w w'
set_option maxHeartbeats 1600000 in
theorem grow_any (n : Nat) (w : World) (h0 : 0 < n) (hn : n ≤ 1000) :
    Calls Try.prog 65 #[.slice none 0 0, .int .i64 n] w (GrownPost w) := by
  obtain ⟨i0, hi, hz0, hz1, hz2⟩ := info_parts infoReading3
  have hrz : ∀ ty, (Builtin.append_ #[24, 3] ty #[.slice none 0 0, .int .i64 (n : Int)]).run Try.prog w =
      .ok (.slice (some ⟨w.heap.size, 0, none⟩) (0 + n) (grownCap w (0 + n) 0 28)) (w.drew.alloc (.cells (#[] ++ Builtin.zeroCells (Value.agg #[.int .i64 0, .int .i64 0]).cells n ++ Builtin.zeroCells (Value.agg #[.int .i64 0, .int .i64 0]).cells (grownCap w (0 + n) 0 28 - (0 + n))) 28)) := fun ty =>
    Lib.run_append_grow_zeros w 24 3 ty 28 i0 _ .i64 .i64 Try.underlying24 Try.underlying3 hi hz0 none 0 0 [] (run_firstCells_none w.drew i0.size 0 0 0) n h0 (by rw [hz1]; decide) (by omega) (by omega) (by rw [hz2]; omega)
      (by rw [hz2]; exact growslice_fits (by omega) (by omega))
  obtain ⟨C, hC⟩ : ∃ C, C = #[] ++ Builtin.zeroCells (Value.agg #[.int .i64 0, .int .i64 0]).cells n ++ Builtin.zeroCells (Value.agg #[.int .i64 0, .int .i64 0]).cells (grownCap w (0 + n) 0 28 - (0 + n)) := ⟨_, rfl⟩
  have hGn : 0 + n ≤ grownCap w (0 + n) 0 28 := grownCap_ge w _ _ _
  have hGm : grownCap w (0 + n) 0 28 ≤ maxLen := grownCap_le_maxLen w (0 + n) 0 28 (by unfold maxLen; omega)
  obtain ⟨G, hG⟩ : ∃ G, G = grownCap w (0 + n) 0 28 := ⟨_, rfl⟩
  rw [← hG] at hC hGn hGm
  rw [← hG] at hrz
  rw [← hC] at hrz
  have hsz : C.size = G * 2 := by
    rw [hC]
    simp [size_zeroCells, Value.cells]
    omega
  have HP : Hid (GrownPost w (.returned (.slice (some ⟨w.heap.size, 0, none⟩) 0 G)) (w.drew.alloc (.cells C 28))) :=
    Lib.hid ⟨G, rfl, World.ownsRow_made w.drew C G (Nat.le_refl _) hGm hsz, ((Below.refl _ _).drew).alloc (Nat.le_refl _) _⟩
  rw [Nat.zero_add] at hrz
  have hG63 : G ≤ 9223372036854775807 := by unfold maxLen at hGm; omega
  clear hC hG hsz hGm hi hz0 hz1 hz2
  go_enter Try.func65, Try.ntmps65
  go_wp2_with (at_builtin; refine Lib.wpList_append_run _ rfl _ _ _ _ rfl _ _ rfl rfl _ _ (hrz _) ?_)
  go_ret
  exact HP.out
/-! ### slices.Concat -/
def Part (w : World) (a : Addr) (l : List (Int × Int)) : Prop := ∀ j u, (cells2 l)[j]? = some u → w.cell? (a.add j) = some u
theorem Part.next {w w' : World} {a : Addr} {l : List (Int × Int)} (h : Part w a l) (hb : Below w.heap.size w w') : Part w' a l := fun j u hu => cell_next hb (h j u hu)
theorem cells2_cat (a b : List (Int × Int)) : cells2 (a ++ b) = cells2 a ++ cells2 b := by simp [cells2]
theorem cells2_one (l : List (Int × Int)) : ∀ u ∈ cells2 l, u.oneCell' = true := by
  intro u hu
  simp only [cells2, List.mem_flatMap, List.mem_cons, List.not_mem_nil, or_false] at hu
  obtain ⟨p, _, rfl | rfl⟩ := hu <;> rfl
def CS (w : World) (L : List (Int × Int)) (v : Value) (wr : World) : Prop := wr.ownsRow w.heap.size 28 2 v L.length (cells2 L) ∧ Below w.heap.size w wr
theorem cs_step {w wr w5 : World} {L l : List (Int × Int)} {v v' : Value} (h : CS w L v wr) (ho : w5.ownsRow w.heap.size 28 2 v' (L.length + l.length) (cells2 L ++ cells2 l)) (hg : wr.grownBy w5 v.ownBlock) : CS w (L ++ l) v' w5 :=
  ⟨by rw [List.length_append, cells2_cat]; exact ho, h.2.grown hg h.2.size (fun k e => (h.1.lt k e).1)⟩
def CatPost (l : List (Int × Int)) (w : World) (e : Ending) (w' : World) : Prop :=
  ∃ v, e = .returned v ∧ w'.ownsRow w.heap.size 28 2 v l.length (cells2 l) ∧ Below w.heap.size w w'
set_option maxRecDepth 20000 in
set_option maxHeartbeats 3200000 in
theorem concat_any (p : Nat) (a1 a2 a3 : Addr) (l1 l2 l3 : List (Int × Int)) (c1 c2 c3 cp : Nat) (w : World) (h0 : w.cell? ⟨p, 0, none⟩ = some (.slice (some a1) l1.length c1)) (h1 : w.cell? ⟨p, 1, none⟩ = some (.slice (some a2) l2.length c2)) (h2 : w.cell? ⟨p, 2, none⟩ = some (.slice (some a3) l3.length c3))
    (hp1 : Part w a1 l1) (hp2 : Part w a2 l2) (hp3 : Part w a3 l3) (hn : l1.length + l2.length + l3.length ≤ 1000) (hpos : 0 < l1.length + l2.length + l3.length) :
    Calls Try.prog 40 #[.slice (some ⟨p, 0, none⟩) 3 cp] w (CatPost (l1 ++ l2 ++ l3) w) := by
  obtain ⟨i0, hi, hz0, hz1, hz2⟩ := info_parts infoReading3
  have HI := Lib.hid (And.intro hi (And.intro hz0 (And.intro hz1 hz2)))
  clear hi hz0 hz1 hz2
  have HP1 := Lib.hid hp1
  have HP2 := Lib.hid hp2
  have HP3 := Lib.hid hp3
  clear hp1 hp2 hp3
  go_enter Try.func40, Try.ntmps40
  go_wp2_with fail
  go_loop [3, 11] (fun s i => (i = .int .i64 0 ∧ s = .int .i64 0) ∨ (i = .int .i64 1 ∧ s = .int .i64 (l1.length : Int)) ∨ (i = .int .i64 2 ∧ s = .int .i64 ((l1.length : Int) + l2.length)) ∨ (i = .int .i64 3 ∧ s = .int .i64 ((l1.length : Int) + l2.length + l3.length))) (fun _ i => 3 - (intOf i).toNat)
  case atStart => exact .inl ⟨rfl, rfl⟩
  case round =>
    rcases hrel with ⟨rfl, rfl⟩ | ⟨rfl, rfl⟩ | ⟨rfl, rfl⟩ | ⟨rfl, rfl⟩
    · go_wp2_with fail
      go_round
      case rel => exact .inr (.inl ⟨rfl, by first | rfl | simp⟩)
      case measure => simp [intOf]
    · go_wp2_with fail
      go_round
      case rel => exact .inr (.inr (.inl ⟨rfl, rfl⟩))
      case measure => simp [intOf]
    · go_wp2_with fail
      go_round
      case rel => exact .inr (.inr (.inr ⟨rfl, rfl⟩))
      case measure => simp [intOf]
    · have e3 : (l1.length : Int) + l2.length + l3.length = ((l1.length + l2.length + l3.length : Nat) : Int) := by omega
      rw [e3]
      have HG := Lib.hid (grow_any (l1.length + l2.length + l3.length) w hpos hn)
      clear e3
      go_wp2_with fail
      refine HG.out.mono ?_
      rintro e w1 ⟨cap, rfl, hown, hb⟩
      have HO := Lib.hid hown
      have HB := Lib.hid hb
      clear hown hb
      go_wp2_with fail
      have HC0 : Hid (CS w [] (.slice (some ⟨w.heap.size, 0, none⟩) 0 cap) w1) := Lib.hid ⟨HO.out, HB.out⟩
      go_loopw [6, 27] (fun s i wr => (i = .int .i64 0 ∧ Hid (CS w [] s wr)) ∨ (i = .int .i64 1 ∧ Hid (CS w l1 s wr)) ∨ (i = .int .i64 2 ∧ Hid (CS w (l1 ++ l2) s wr)) ∨ (i = .int .i64 3 ∧ Hid (CS w (l1 ++ l2 ++ l3) s wr))) (fun _ i _ => 3 - (intOf i).toNat)
      case atStart => exact .inl ⟨rfl, HC0⟩
      case round =>
        rcases hrel with ⟨rfl, HC⟩ | ⟨rfl, HC⟩ | ⟨rfl, HC⟩ | ⟨rfl, HC⟩
        · have h0' := cell_next HC.out.2 h0
          go_wp2_with (at_builtin; go_loud (refine wpList_append_own _ rfl _ _ 24 rfl w.heap.size 28 i0 (.agg #[.int .i64 0, .int .i64 0]) 2 16 Try.underlying24 HI.out.1 HI.out.2.1 HI.out.2.2.1 HI.out.2.2.2 rfl (by decide) _ _ _ rfl HC.out.1 a1 l1.length c1 (cells2 l1) rfl (cells2_len l1) (HP1.out.next HC.out.2) (cells2_one l1) (by simp only [List.length_nil]; unfold maxLen; omega) (by simp only [List.length_nil]; omega) HC.out.2.size ?_; intro v' w5 hown' hgrow _; have HN := Lib.hid (cs_step HC.out hown' hgrow); clear hown' hgrow))
          go_roundw
          case rel => exact .inr (.inl ⟨rfl, HN⟩)
          case measure => simp [intOf]
        · have h1' := cell_next HC.out.2 h1
          go_wp2_with (at_builtin; go_loud (refine wpList_append_own _ rfl _ _ 24 rfl w.heap.size 28 i0 (.agg #[.int .i64 0, .int .i64 0]) 2 16 Try.underlying24 HI.out.1 HI.out.2.1 HI.out.2.2.1 HI.out.2.2.2 rfl (by decide) _ _ _ rfl HC.out.1 a2 l2.length c2 (cells2 l2) rfl (cells2_len l2) (HP2.out.next HC.out.2) (cells2_one l2) (by unfold maxLen; omega) (by omega) HC.out.2.size ?_; intro v' w5 hown' hgrow _; have HN := Lib.hid (cs_step HC.out hown' hgrow); clear hown' hgrow))
          go_roundw
          case rel => exact .inr (.inr (.inl ⟨rfl, HN⟩))
          case measure => simp [intOf]
        · have h2' := cell_next HC.out.2 h2
          go_wp2_with (at_builtin; go_loud (refine wpList_append_own _ rfl _ _ 24 rfl w.heap.size 28 i0 (.agg #[.int .i64 0, .int .i64 0]) 2 16 Try.underlying24 HI.out.1 HI.out.2.1 HI.out.2.2.1 HI.out.2.2.2 rfl (by decide) _ _ _ rfl HC.out.1 a3 l3.length c3 (cells2 l3) rfl (cells2_len l3) (HP3.out.next HC.out.2) (cells2_one l3) (by simp only [List.length_append]; unfold maxLen; omega) (by simp only [List.length_append]; omega) HC.out.2.size ?_; intro v' w5 hown' hgrow _; have HN := Lib.hid (cs_step HC.out hown' hgrow); clear hown' hgrow))
          go_roundw
          case rel => exact .inr (.inr (.inr ⟨rfl, HN⟩))
          case measure => simp [intOf]
        · go_wp2_with fail
          go_ret
          exact ⟨_, rfl, HC.out.1, HC.out.2⟩
end Go.Proofs.Ytlggcfeclbcfaaa
