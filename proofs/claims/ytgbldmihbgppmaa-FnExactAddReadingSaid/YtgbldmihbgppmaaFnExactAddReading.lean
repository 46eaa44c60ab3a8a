/-
  Proved here: for every gauge and reading the law laws.FnExactAddReading returns true (impl.AddReading answers as spec.AddReading, writes into no argument, and its answer owns its memory), and the arguments read afterwards as before.
  Conditions: none beyond the row's own.
-/
import Derived.Test.YtgbldmihbgppmaaAd5
import Derived.Test.YtgbldmihbgppmaaAd7
import Derived.Test.YtgbldmihbgppmaaAd24
import Derived.Deep.RegionHeld3
import Derived.Deep.DeepCutAuto
namespace Go.Proofs.Ytgbldmihbgppmaa.fnExactAddReading
open Go.Joins Go.ChangeShapes Go.WideShapes Go.ChangeAt Go.RowKit Go.Deep
set_option linter.unusedVariables false

theorem adLs_len (id ze : Int) (nm : ByteArray) (l : List (Int × Int)) (t y : Int) : (adLs id ze nm l t y).length ≤ 1048576 := by
  unfold adLs
  split
  · rename_i h
    unfold adK at h
    rw [Bool.and_eq_true] at h
    have := (good_of_gauge h.2).2.2.2.1
    omega
  · simp
/-! ### The walk: the Go text returns true, and nothing that was there has turned. -/
set_option maxRecDepth 20000 in
set_option maxHeartbeats 6400000 in
theorem walk (id ze : Int) (nm : ByteArray) (A : Option Addr) (n c : Nat) (l : List (Int × Int)) (t y : Int) (w : World) (hs : Spots w w.heap.size A n l) (hm : n ≤ maxLen) (hn : nm.size ≤ maxLen) :
    Calls Try.prog 7 #[.agg #[.int .i64 id, .string nm, .int .i64 ze, .slice A n c], .agg #[.int .i64 t, .int .i64 y]] w fun e w' => e = .returned (.bool true) ∧ Below w.heap.size w w' := by
  have HX := Lib.hid (box2 (cs := #[.int .i64 id, .string nm, .int .i64 ze, .slice A n c]) (T := 83) (ds := #[.int .i64 t, .int .i64 y]) (T' := 84) (Below.refl _ _) (w := w))
  by_cases h0 : (1048576 : Int) < (nm.size : Int) + n
  · go_enter Try.func7, Try.ntmps7
    go_wp2_with fail
    refine (szG_neg _ _ _ _ _ _ _ _ (by omega) (by omega) hn hm h0).mono ?_
    rintro e w1 ⟨rfl, hb⟩
    have HT := Lib.hid (bthen HX.out.1 hb HX.out.1.size)
    clear hb
    go_wp2_with fail
    go_ret
    exact ⟨rfl, HT.out⟩
  have hle : n ≤ 1048576 := by omega
  have hsz : 0 ≤ (1048576 : Int) - nm.size - n := by omega
  obtain rfl := hs.1
  have hres : (adLs id ze nm l t y).length ≤ 1048576 := adLs_len id ze nm l t y
  have HSz := Lib.hid (And.intro hle hsz)
  obtain ⟨V0, hV⟩ : ∃ W, W = (w.alloc (.cells #[.int .i64 id, .string nm, .int .i64 ze, .slice A l.length c] 83)).alloc (.cells #[.int .i64 t, .int .i64 y] 84) := ⟨_, rfl⟩
  have HN0 : Hid (Below w.heap.size w V0 ∧ Has V0 w.heap.size [.int .i64 id, .string nm, .int .i64 ze, .slice A l.length c] ∧ Has V0 (w.heap.size + 1) [.int .i64 t, .int .i64 y]) := by rw [hV]; exact Lib.hid ⟨HX.out.1, HX.out.2.1, HX.out.2.2⟩
  have HB0 := Lib.hid HN0.out.1
  have HX0 := Lib.hid HN0.out.2.1
  have HX1 := Lib.hid HN0.out.2.2
  have HC0 := Lib.hid HN0.out.2.2.1
  have HE0 := Lib.hid hV
  clear hV h0 HX
  go_enter Try.func7, Try.ntmps7
  go_wp2_with fail
  rw [← HE0.out]
  refine (szG_pos _ _ _ _ _ _ _ _ (by omega) (by omega)).mono ?_
  rintro e w1 ⟨rfl, hb⟩
  have HB2 := Lib.hid (bthen HB0.out hb HB0.out.size)
  have HC2 := Lib.hid hb.size
  have HX0_2 := Lib.hid (HX0.out.next hb)
  have HX1_2 := Lib.hid (HX1.out.next hb)
  clear hb
  go_wp2_with fail
  refine reg5 rfl id ze nm A c l t y _ _ _ (spots_at hs HB2.out) hle hm hn HX0_2.out HX1_2.out _ _ _ _ _ _ _ _ _ _ _ _ _ _ _ _ _ _ _ _ _ _ _ _ _ _ _ _ _ _ _ _ _ _ _ _ _ _ _ _ _ _ _ _ _ _ _ _ _ _ _ _ _ _ _ _ _ _ _ _ _ _ _ _ _ _ _ _ _ _ _ _ _ _ _ _ _ _ _ _ _ _ _ _ _ _ _ _ _ _ _ _ _ _ _ _ _ _ _ _ _ _ (fun gs3 lo3 hi3 A3 c3 z3_22 z3_23 z3_24 z3_25 z3_26 z3_21 z3_27 z3_28 Y3 hW => ?_)
  have hb := hW.out.1
  have HB4 := Lib.hid (bthen HB2.out hb HB2.out.size)
  have HC4 := Lib.hid hb.size
  have HX0_4 := Lib.hid (HX0_2.out.next hb)
  have HX1_4 := Lib.hid (HX1_2.out.next hb)
  clear hb
  have HL3 := Lib.hid hW.out.2.2.2
  have HG3 := Lib.hid hW.out.2.1
  have HO3 := Lib.hid hW.out.2.2.1
  have HD3 := Lib.hid hW.out.2.1.1
  clear hW
  have q0_0 := HX0_4.out.at_ 0 _ rfl
  have q0_1 := HX0_4.out.at_ 1 _ rfl
  have q0_2 := HX0_4.out.at_ 2 _ rfl
  have q0_3 := HX0_4.out.at_ 3 _ rfl
  go_wp2_with fail
  refine (toGauge_any _ _ _ _ _ _ l _ (spots_at hs HB4.out) hle).mono ?_
  rintro e w5 ⟨g5, rfl, hO, hb⟩
  have HB6 := Lib.hid (bthen HB4.out hb HB4.out.size)
  have HC6 := Lib.hid hb.size
  have HX0_6 := Lib.hid (HX0_4.out.next hb)
  have HX1_6 := Lib.hid (HX1_4.out.next hb)
  have HX2_6 := Lib.hid (HG3.out.next hb)
  have HR0_6 := Lib.hid (HO3.out.on hb (by have z0 := HC0.out; have z1 := HC2.out; have z2 := HC4.out; have z3 := HL3.out; have z4 := HD3.out; have z5 := HC6.out; omega))
  clear hb
  have HO5 := Lib.hid hO
  clear hO q0_0 q0_1 q0_2 q0_3
  have q0_0 := (HX0_6.out.alloc (.cells #[.int .i64 id, .string nm, .int .i64 ze, .slice (some ⟨g5, 0, none⟩) l.length l.length] 53)).at_ 0 _ rfl
  have q0_1 := (HX0_6.out.alloc (.cells #[.int .i64 id, .string nm, .int .i64 ze, .slice (some ⟨g5, 0, none⟩) l.length l.length] 53)).at_ 1 _ rfl
  have q0_2 := (HX0_6.out.alloc (.cells #[.int .i64 id, .string nm, .int .i64 ze, .slice (some ⟨g5, 0, none⟩) l.length l.length] 53)).at_ 2 _ rfl
  have q0_3 := (HX0_6.out.alloc (.cells #[.int .i64 id, .string nm, .int .i64 ze, .slice (some ⟨g5, 0, none⟩) l.length l.length] 53)).at_ 3 _ rfl
  have q1_0 := (HX1_6.out.alloc (.cells #[.int .i64 id, .string nm, .int .i64 ze, .slice (some ⟨g5, 0, none⟩) l.length l.length] 53)).at_ 0 _ rfl
  have q1_1 := (HX1_6.out.alloc (.cells #[.int .i64 id, .string nm, .int .i64 ze, .slice (some ⟨g5, 0, none⟩) l.length l.length] 53)).at_ 1 _ rfl
  have q2_0 := (HX2_6.out.alloc (.cells #[.int .i64 id, .string nm, .int .i64 ze, .slice (some ⟨g5, 0, none⟩) l.length l.length] 53)).at_ 0 _ rfl
  have q2_1 := (HX2_6.out.alloc (.cells #[.int .i64 id, .string nm, .int .i64 ze, .slice (some ⟨g5, 0, none⟩) l.length l.length] 53)).at_ 1 _ rfl
  have q2_2 := (HX2_6.out.alloc (.cells #[.int .i64 id, .string nm, .int .i64 ze, .slice (some ⟨g5, 0, none⟩) l.length l.length] 53)).at_ 2 _ rfl
  have q2_3 := (HX2_6.out.alloc (.cells #[.int .i64 id, .string nm, .int .i64 ze, .slice (some ⟨g5, 0, none⟩) l.length l.length] 53)).at_ 3 _ rfl
  obtain ⟨V7, hV⟩ : ∃ W, W = w5.alloc (.cells #[.int .i64 id, .string nm, .int .i64 ze, .slice (some ⟨g5, 0, none⟩) l.length l.length] 53) := ⟨_, rfl⟩
  have HN7 : Hid (Below w5.heap.size w5 V7 ∧ Has V7 w5.heap.size [.int .i64 id, .string nm, .int .i64 ze, .slice (some ⟨g5, 0, none⟩) l.length l.length]) := by rw [hV]; exact box1 (Below.refl _ _)
  have hb := HN7.out.1
  have HB8 := Lib.hid (bthen HB6.out hb HB6.out.size)
  have HC8 := Lib.hid hb.size
  have HX0_8 := Lib.hid (HX0_6.out.next hb)
  have HX1_8 := Lib.hid (HX1_6.out.next hb)
  have HX2_8 := Lib.hid (HX2_6.out.next hb)
  have HR0_8 := Lib.hid (HR0_6.out.on hb (by have z0 := HC0.out; have z1 := HC2.out; have z2 := HC4.out; have z3 := HL3.out; have z4 := HD3.out; have z5 := HC6.out; have z6 := HC8.out; omega))
  have HR1_8 := Lib.hid (HO5.out.on hb (by have z0 := HC0.out; have z1 := HC2.out; have z2 := HC4.out; have z3 := HL3.out; have z4 := HD3.out; have z5 := HC6.out; have z6 := HC8.out; omega))
  clear hb
  have HD7 := Lib.hid HN7.out.2.1
  have HNx7 := Lib.hid HN7.out.2
  have HE7 := Lib.hid hV
  clear hV
  go_upto_region 7 with fail
  rw [← HE7.out]
  clear q0_0 q0_1 q0_2 q0_3 q1_0 q1_1 q2_0 q2_1 q2_2 q2_3
  go_wp2_with fail
  refine reg7 rfl id ze nm g5 l t y _ _ _ (HR1_8.out.spots (by have z0 := HC0.out; have z1 := HC2.out; have z2 := HC4.out; have z3 := HL3.out; have z4 := HD3.out; have z5 := HC6.out; have z6 := HC8.out; have z7 := HD7.out; omega)) hle hm hn HNx7.out HX1_8.out _ _ _ _ _ _ _ _ _ _ _ _ _ _ _ _ _ _ _ _ _ _ _ _ _ _ _ _ _ _ _ _ _ _ _ _ _ _ _ _ _ _ _ _ _ _ _ _ _ _ _ _ _ _ _ _ _ _ _ _ _ _ _ _ _ _ _ _ _ _ _ _ _ _ _ _ _ _ _ _ _ _ _ _ _ _ _ _ _ _ _ _ _ _ _ _ _ _ _ _ _ _ (fun gs9 lo9 hi9 A9 c9 z9_32 z9_33 z9_34 z9_35 z9_31 z9_36 z9_37 Y9 hW => ?_)
  have hb := hW.out.1
  have HB10 := Lib.hid (bthen HB8.out hb HB8.out.size)
  have HC10 := Lib.hid hb.size
  have HX0_10 := Lib.hid (HX0_8.out.next hb)
  have HX1_10 := Lib.hid (HX1_8.out.next hb)
  have HX2_10 := Lib.hid (HX2_8.out.next hb)
  have HX3_10 := Lib.hid (HNx7.out.next hb)
  have HR0_10 := Lib.hid (HR0_8.out.on hb (by have z0 := HC0.out; have z1 := HC2.out; have z2 := HC4.out; have z3 := HL3.out; have z4 := HD3.out; have z5 := HC6.out; have z6 := HC8.out; have z7 := HD7.out; have z8 := HC10.out; omega))
  have HR1_10 := Lib.hid (HR1_8.out.on hb (by have z0 := HC0.out; have z1 := HC2.out; have z2 := HC4.out; have z3 := HL3.out; have z4 := HD3.out; have z5 := HC6.out; have z6 := HC8.out; have z7 := HD7.out; have z8 := HC10.out; omega))
  clear hb
  have HL9 := Lib.hid hW.out.2.2.2
  have HG9 := Lib.hid hW.out.2.1
  have HO9 := Lib.hid hW.out.2.2.1
  have HD9 := Lib.hid hW.out.2.1.1
  clear hW
  have q2_0 := HX2_10.out.at_ 0 _ rfl
  have q2_1 := HX2_10.out.at_ 1 _ rfl
  have q2_2 := HX2_10.out.at_ 2 _ rfl
  have q2_3 := HX2_10.out.at_ 3 _ rfl
  have q4_0 := HG9.out.at_ 0 _ rfl
  have q4_1 := HG9.out.at_ 1 _ rfl
  have q4_2 := HG9.out.at_ 2 _ rfl
  have q4_3 := HG9.out.at_ 3 _ rfl
  go_wp2_with fail
  refine (eqG_same _ _ _ _ _ _ _ _ _ _ (HO9.out.spots (by have z0 := HC0.out; have z1 := HC2.out; have z2 := HC4.out; have z3 := HL3.out; have z4 := HD3.out; have z5 := HC6.out; have z6 := HC8.out; have z7 := HD7.out; have z8 := HC10.out; have z9 := HL9.out; have z10 := HD9.out; omega)) (HR0_10.out.spots (by have z0 := HC0.out; have z1 := HC2.out; have z2 := HC4.out; have z3 := HL3.out; have z4 := HD3.out; have z5 := HC6.out; have z6 := HC8.out; have z7 := HD7.out; have z8 := HC10.out; have z9 := HL9.out; have z10 := HD9.out; omega)) (by unfold maxLen; omega)).mono ?_
  rintro e w11 ⟨rfl, hb⟩
  have HB12 := Lib.hid (bthen HB10.out hb HB10.out.size)
  have HC12 := Lib.hid hb.size
  have HX0_12 := Lib.hid (HX0_10.out.next hb)
  have HX1_12 := Lib.hid (HX1_10.out.next hb)
  have HX2_12 := Lib.hid (HX2_10.out.next hb)
  have HX3_12 := Lib.hid (HX3_10.out.next hb)
  have HX4_12 := Lib.hid (HG9.out.next hb)
  have HR0_12 := Lib.hid (HR0_10.out.on hb (by have z0 := HC0.out; have z1 := HC2.out; have z2 := HC4.out; have z3 := HL3.out; have z4 := HD3.out; have z5 := HC6.out; have z6 := HC8.out; have z7 := HD7.out; have z8 := HC10.out; have z9 := HL9.out; have z10 := HD9.out; have z11 := HC12.out; omega))
  have HR1_12 := Lib.hid (HR1_10.out.on hb (by have z0 := HC0.out; have z1 := HC2.out; have z2 := HC4.out; have z3 := HL3.out; have z4 := HD3.out; have z5 := HC6.out; have z6 := HC8.out; have z7 := HD7.out; have z8 := HC10.out; have z9 := HL9.out; have z10 := HD9.out; have z11 := HC12.out; omega))
  have HR2_12 := Lib.hid (HO9.out.on hb (by have z0 := HC0.out; have z1 := HC2.out; have z2 := HC4.out; have z3 := HL3.out; have z4 := HD3.out; have z5 := HC6.out; have z6 := HC8.out; have z7 := HD7.out; have z8 := HC10.out; have z9 := HL9.out; have z10 := HD9.out; have z11 := HC12.out; omega))
  clear hb
  clear q2_0 q2_1 q2_2 q2_3 q4_0 q4_1 q4_2 q4_3
  have q0_0 := HX0_12.out.at_ 0 _ rfl
  have q0_1 := HX0_12.out.at_ 1 _ rfl
  have q0_2 := HX0_12.out.at_ 2 _ rfl
  have q0_3 := HX0_12.out.at_ 3 _ rfl
  have q3_0 := HX3_12.out.at_ 0 _ rfl
  have q3_1 := HX3_12.out.at_ 1 _ rfl
  have q3_2 := HX3_12.out.at_ 2 _ rfl
  have q3_3 := HX3_12.out.at_ 3 _ rfl
  go_wp2_with fail
  have HK : Hid ((∀ W : World, Below w11.heap.size w11 W → W.cell? ⟨w.heap.size, 0, none⟩ = some (.int .i64 id) ∧ W.cell? ⟨w.heap.size, 1, none⟩ = some (.string nm) ∧ W.cell? ⟨w.heap.size, 2, none⟩ = some (.int .i64 ze) ∧ W.cell? ⟨w.heap.size, 3, none⟩ = some (.slice A l.length c) ∧ W.cell? ⟨w5.heap.size, 0, none⟩ = some (.int .i64 id) ∧ W.cell? ⟨w5.heap.size, 1, none⟩ = some (.string nm) ∧ W.cell? ⟨w5.heap.size, 2, none⟩ = some (.int .i64 ze) ∧ W.cell? ⟨w5.heap.size, 3, none⟩ = some (.slice (some ⟨g5, 0, none⟩) l.length l.length) ∧ Hid (Below w11.heap.size w11 W)) ∧ (∀ W : World, (W.cell? ⟨w.heap.size, 0, none⟩ = some (.int .i64 id) ∧ W.cell? ⟨w.heap.size, 1, none⟩ = some (.string nm) ∧ W.cell? ⟨w.heap.size, 2, none⟩ = some (.int .i64 ze) ∧ W.cell? ⟨w.heap.size, 3, none⟩ = some (.slice A l.length c) ∧ W.cell? ⟨w5.heap.size, 0, none⟩ = some (.int .i64 id) ∧ W.cell? ⟨w5.heap.size, 1, none⟩ = some (.string nm) ∧ W.cell? ⟨w5.heap.size, 2, none⟩ = some (.int .i64 ze) ∧ W.cell? ⟨w5.heap.size, 3, none⟩ = some (.slice (some ⟨g5, 0, none⟩) l.length l.length) ∧ Hid (Below w11.heap.size w11 W)) → Below w11.heap.size w11 W)) := Lib.hid ⟨fun W h => ⟨cell_next h (by assumption), cell_next h (by assumption), cell_next h (by assumption), cell_next h (by assumption), cell_next h (by assumption), cell_next h (by assumption), cell_next h (by assumption), cell_next h (by assumption), Lib.hid h⟩, fun W h => h.2.2.2.2.2.2.2.2.out⟩
  go_region_held3 (fun W => W.cell? ⟨w.heap.size, 0, none⟩ = some (.int .i64 id) ∧ W.cell? ⟨w.heap.size, 1, none⟩ = some (.string nm) ∧ W.cell? ⟨w.heap.size, 2, none⟩ = some (.int .i64 ze) ∧ W.cell? ⟨w.heap.size, 3, none⟩ = some (.slice A l.length c) ∧ W.cell? ⟨w5.heap.size, 0, none⟩ = some (.int .i64 id) ∧ W.cell? ⟨w5.heap.size, 1, none⟩ = some (.string nm) ∧ W.cell? ⟨w5.heap.size, 2, none⟩ = some (.int .i64 ze) ∧ W.cell? ⟨w5.heap.size, 3, none⟩ = some (.slice (some ⟨g5, 0, none⟩) l.length l.length) ∧ Hid (Below w11.heap.size w11 W)) (first | with_reducible assumption | with_reducible exact HK.out.1 _ (Below.refl _ _).drew | with_reducible exact HK.out.1 _ (bthen (HK.out.2 _ (by assumption)) hb (HK.out.2 _ (by assumption)).size) | with_reducible exact HK.out.1 _ ((HK.out.2 _ (by assumption)).alloc (HK.out.2 _ (by assumption)).size _) | with_reducible exact HK.out.1 _ (HBw.out.alloc HBw.out.size _) | with_reducible exact HK.out.1 _ ((Below.refl _ _).alloc (Nat.le_refl _) _) | with_reducible exact HK.out.1 _ ((HK.out.2 _ (by assumption)).alloc (HK.out.2 _ (by assumption)).size _).drew | with_reducible exact HK.out.1 _ (HBw.out.alloc HBw.out.size _).drew | with_reducible exact HK.out.1 _ ((Below.refl _ _).alloc (Nat.le_refl _) _).drew) ((first | (go_at_call 78; refine (toGauge_any _ _ _ _ _ _ l _ (spots_at hs (bthen HB12.out (HK.out.2 _ (by assumption)) HB12.out.size)) HSz.out.1).mono ?_; rintro e w13 ⟨g13, rfl, hO, hb⟩; have HO7 := Lib.hid hO; have HBB := Lib.hid (bthen (HK.out.2 _ (by assumption)) hb (HK.out.2 _ (by assumption)).size); have HR7 := Lib.hid (HR1_12.out.on HBB.out (by have z0 := HC0.out; have z1 := HC2.out; have z2 := HC4.out; have z3 := HL3.out; have z4 := HD3.out; have z5 := HC6.out; have z6 := HC8.out; have z7 := HD7.out; have z8 := HC10.out; have z9 := HL9.out; have z10 := HD9.out; have z11 := HC12.out; omega)); have HZ7 := Lib.hid HBB.out.size; clear hO; dsimp only) | (go_at_call 80; refine (eqG_same _ _ _ _ _ _ _ _ l _ (HR7.out.spots (by have z0 := HC0.out; have z1 := HC2.out; have z2 := HC4.out; have z3 := HL3.out; have z4 := HD3.out; have z5 := HC6.out; have z6 := HC8.out; have z7 := HD7.out; have z8 := HC10.out; have z9 := HL9.out; have z10 := HD9.out; have z11 := HC12.out; have z12 := HZ7.out; omega)) (HO7.out.spots (Nat.le_refl _)) hm).mono ?_; rintro e w13x ⟨rfl, hb⟩; have HBw := Lib.hid (bthen (HK.out.2 _ (by assumption)) hb (HK.out.2 _ (by assumption)).size); dsimp only)))
  have hb := HK.out.2 _ (by assumption)
  clear HK q0_0 q0_1 q0_2 q0_3 q3_0 q3_1 q3_2 q3_3
  have HB14 := Lib.hid (bthen HB12.out hb HB12.out.size)
  have HC14 := Lib.hid hb.size
  have HX0_14 := Lib.hid (HX0_12.out.next hb)
  have HX1_14 := Lib.hid (HX1_12.out.next hb)
  have HX2_14 := Lib.hid (HX2_12.out.next hb)
  have HX3_14 := Lib.hid (HX3_12.out.next hb)
  have HX4_14 := Lib.hid (HX4_12.out.next hb)
  have HR0_14 := Lib.hid (HR0_12.out.on hb (by have z0 := HC0.out; have z1 := HC2.out; have z2 := HC4.out; have z3 := HL3.out; have z4 := HD3.out; have z5 := HC6.out; have z6 := HC8.out; have z7 := HD7.out; have z8 := HC10.out; have z9 := HL9.out; have z10 := HD9.out; have z11 := HC12.out; have z12 := HC14.out; omega))
  have HR1_14 := Lib.hid (HR1_12.out.on hb (by have z0 := HC0.out; have z1 := HC2.out; have z2 := HC4.out; have z3 := HL3.out; have z4 := HD3.out; have z5 := HC6.out; have z6 := HC8.out; have z7 := HD7.out; have z8 := HC10.out; have z9 := HL9.out; have z10 := HD9.out; have z11 := HC12.out; have z12 := HC14.out; omega))
  have HR2_14 := Lib.hid (HR2_12.out.on hb (by have z0 := HC0.out; have z1 := HC2.out; have z2 := HC4.out; have z3 := HL3.out; have z4 := HD3.out; have z5 := HC6.out; have z6 := HC8.out; have z7 := HD7.out; have z8 := HC10.out; have z9 := HL9.out; have z10 := HD9.out; have z11 := HC12.out; have z12 := HC14.out; omega))
  clear hb
  have q3_0 := HX3_14.out.at_ 0 _ rfl
  have q3_1 := HX3_14.out.at_ 1 _ rfl
  have q3_2 := HX3_14.out.at_ 2 _ rfl
  have q3_3 := HX3_14.out.at_ 3 _ rfl
  go_wp2_with fail
  refine (markG_any _ _ _ _ _ _ _ _ _ _ HR1_14.out (by have z0 := HC0.out; have z1 := HC2.out; have z2 := HC4.out; have z3 := HL3.out; have z4 := HD3.out; have z5 := HC6.out; have z6 := HC8.out; have z7 := HD7.out; have z8 := HC10.out; have z9 := HL9.out; have z10 := HD9.out; have z11 := HC12.out; have z12 := HC14.out; omega) hle).mono ?_
  rintro e w15 ⟨rfl, v15, hb, hO, hF⟩
  have HB16 := Lib.hid (bthen HB14.out hb HB14.out.size)
  have HC16 := Lib.hid hb.size
  have HX0_16 := Lib.hid (HX0_14.out.next hb)
  have HX1_16 := Lib.hid (HX1_14.out.next hb)
  have HX2_16 := Lib.hid (HX2_14.out.next hb)
  have HX3_16 := Lib.hid (HX3_14.out.next hb)
  have HX4_16 := Lib.hid (HX4_14.out.next hb)
  have HR0_16 := Lib.hid (HR0_14.out.on hb (by have z0 := HC0.out; have z1 := HC2.out; have z2 := HC4.out; have z3 := HL3.out; have z4 := HD3.out; have z5 := HC6.out; have z6 := HC8.out; have z7 := HD7.out; have z8 := HC10.out; have z9 := HL9.out; have z10 := HD9.out; have z11 := HC12.out; have z12 := HC14.out; have z13 := HC16.out; omega))
  have HR1_16 := Lib.hid (HR1_14.out.on hb (by have z0 := HC0.out; have z1 := HC2.out; have z2 := HC4.out; have z3 := HL3.out; have z4 := HD3.out; have z5 := HC6.out; have z6 := HC8.out; have z7 := HD7.out; have z8 := HC10.out; have z9 := HL9.out; have z10 := HD9.out; have z11 := HC12.out; have z12 := HC14.out; have z13 := HC16.out; omega))
  have HR2_16 := Lib.hid (HR2_14.out.on hb (by have z0 := HC0.out; have z1 := HC2.out; have z2 := HC4.out; have z3 := HL3.out; have z4 := HD3.out; have z5 := HC6.out; have z6 := HC8.out; have z7 := HD7.out; have z8 := HC10.out; have z9 := HL9.out; have z10 := HD9.out; have z11 := HC12.out; have z12 := HC14.out; have z13 := HC16.out; omega))
  clear hb
  have HB17 := Lib.hid (HB16.out.trans (hF.below (by have z0 := HC0.out; have z1 := HC2.out; have z2 := HC4.out; have z3 := HL3.out; have z4 := HD3.out; have z5 := HC6.out; have z6 := HC8.out; have z7 := HD7.out; have z8 := HC10.out; have z9 := HL9.out; have z10 := HD9.out; have z11 := HC12.out; have z12 := HC14.out; have z13 := HC16.out; omega) HB16.out.size))
  have HC17 := Lib.hid (Nat.le_of_eq hF.size.symm)
  have HX0_17 := Lib.hid (HX0_16.out.farF hF (by have y := HX0_16.out.1; have z0 := HC0.out; have z1 := HC2.out; have z2 := HC4.out; have z3 := HL3.out; have z4 := HD3.out; have z5 := HC6.out; have z6 := HC8.out; have z7 := HD7.out; have z8 := HC10.out; have z9 := HL9.out; have z10 := HD9.out; have z11 := HC12.out; have z12 := HC14.out; have z13 := HC16.out; have z14 := HC17.out; omega))
  have HX1_17 := Lib.hid (HX1_16.out.farF hF (by have y := HX1_16.out.1; have z0 := HC0.out; have z1 := HC2.out; have z2 := HC4.out; have z3 := HL3.out; have z4 := HD3.out; have z5 := HC6.out; have z6 := HC8.out; have z7 := HD7.out; have z8 := HC10.out; have z9 := HL9.out; have z10 := HD9.out; have z11 := HC12.out; have z12 := HC14.out; have z13 := HC16.out; have z14 := HC17.out; omega))
  have HX2_17 := Lib.hid (HX2_16.out.farF hF (by have y := HX2_16.out.1; have z0 := HC0.out; have z1 := HC2.out; have z2 := HC4.out; have z3 := HL3.out; have z4 := HD3.out; have z5 := HC6.out; have z6 := HC8.out; have z7 := HD7.out; have z8 := HC10.out; have z9 := HL9.out; have z10 := HD9.out; have z11 := HC12.out; have z12 := HC14.out; have z13 := HC16.out; have z14 := HC17.out; omega))
  have HX3_17 := Lib.hid (HX3_16.out.farF hF (by have y := HX3_16.out.1; have z0 := HC0.out; have z1 := HC2.out; have z2 := HC4.out; have z3 := HL3.out; have z4 := HD3.out; have z5 := HC6.out; have z6 := HC8.out; have z7 := HD7.out; have z8 := HC10.out; have z9 := HL9.out; have z10 := HD9.out; have z11 := HC12.out; have z12 := HC14.out; have z13 := HC16.out; have z14 := HC17.out; omega))
  have HX4_17 := Lib.hid (HX4_16.out.farF hF (by have y := HX4_16.out.1; have z0 := HC0.out; have z1 := HC2.out; have z2 := HC4.out; have z3 := HL3.out; have z4 := HD3.out; have z5 := HC6.out; have z6 := HC8.out; have z7 := HD7.out; have z8 := HC10.out; have z9 := HL9.out; have z10 := HD9.out; have z11 := HC12.out; have z12 := HC14.out; have z13 := HC16.out; have z14 := HC17.out; omega))
  have HR0_17 := Lib.hid (HR0_16.out.far hF (by have z0 := HC0.out; have z1 := HC2.out; have z2 := HC4.out; have z3 := HL3.out; have z4 := HD3.out; have z5 := HC6.out; have z6 := HC8.out; have z7 := HD7.out; have z8 := HC10.out; have z9 := HL9.out; have z10 := HD9.out; have z11 := HC12.out; have z12 := HC14.out; have z13 := HC16.out; have z14 := HC17.out; omega) (by have z0 := HC0.out; have z1 := HC2.out; have z2 := HC4.out; have z3 := HL3.out; have z4 := HD3.out; have z5 := HC6.out; have z6 := HC8.out; have z7 := HD7.out; have z8 := HC10.out; have z9 := HL9.out; have z10 := HD9.out; have z11 := HC12.out; have z12 := HC14.out; have z13 := HC16.out; have z14 := HC17.out; omega))
  have HR2_17 := Lib.hid (HR2_16.out.far hF (by have z0 := HC0.out; have z1 := HC2.out; have z2 := HC4.out; have z3 := HL3.out; have z4 := HD3.out; have z5 := HC6.out; have z6 := HC8.out; have z7 := HD7.out; have z8 := HC10.out; have z9 := HL9.out; have z10 := HD9.out; have z11 := HC12.out; have z12 := HC14.out; have z13 := HC16.out; have z14 := HC17.out; omega) (by have z0 := HC0.out; have z1 := HC2.out; have z2 := HC4.out; have z3 := HL3.out; have z4 := HD3.out; have z5 := HC6.out; have z6 := HC8.out; have z7 := HD7.out; have z8 := HC10.out; have z9 := HL9.out; have z10 := HD9.out; have z11 := HC12.out; have z12 := HC14.out; have z13 := HC16.out; have z14 := HC17.out; omega))
  clear hF
  have HM15 := Lib.hid hO
  clear hO q3_0 q3_1 q3_2 q3_3
  have hk1 : 0 ≤ 2 * (l.length : Int) + 1 := by omega
  have q2_0 := HX2_17.out.at_ 0 _ rfl
  have q2_1 := HX2_17.out.at_ 1 _ rfl
  have q2_2 := HX2_17.out.at_ 2 _ rfl
  have q2_3 := HX2_17.out.at_ 3 _ rfl
  have q4_0 := HX4_17.out.at_ 0 _ rfl
  have q4_1 := HX4_17.out.at_ 1 _ rfl
  have q4_2 := HX4_17.out.at_ 2 _ rfl
  have q4_3 := HX4_17.out.at_ 3 _ rfl
  go_wp2_with fail
  refine (eqG_same _ _ _ _ _ _ _ _ _ _ (HR2_17.out.spots (by have z0 := HC0.out; have z1 := HC2.out; have z2 := HC4.out; have z3 := HL3.out; have z4 := HD3.out; have z5 := HC6.out; have z6 := HC8.out; have z7 := HD7.out; have z8 := HC10.out; have z9 := HL9.out; have z10 := HD9.out; have z11 := HC12.out; have z12 := HC14.out; have z13 := HC16.out; have z14 := HC17.out; omega)) (HR0_17.out.spots (by have z0 := HC0.out; have z1 := HC2.out; have z2 := HC4.out; have z3 := HL3.out; have z4 := HD3.out; have z5 := HC6.out; have z6 := HC8.out; have z7 := HD7.out; have z8 := HC10.out; have z9 := HL9.out; have z10 := HD9.out; have z11 := HC12.out; have z12 := HC14.out; have z13 := HC16.out; have z14 := HC17.out; omega)) (by unfold maxLen; omega)).mono ?_
  rintro e w18 ⟨rfl, hb⟩
  have HB19 := Lib.hid (bthen HB17.out hb HB17.out.size)
  have HC19 := Lib.hid hb.size
  have HX0_19 := Lib.hid (HX0_17.out.next hb)
  have HX1_19 := Lib.hid (HX1_17.out.next hb)
  have HX2_19 := Lib.hid (HX2_17.out.next hb)
  have HX3_19 := Lib.hid (HX3_17.out.next hb)
  have HX4_19 := Lib.hid (HX4_17.out.next hb)
  have HR0_19 := Lib.hid (HR0_17.out.on hb (by have z0 := HC0.out; have z1 := HC2.out; have z2 := HC4.out; have z3 := HL3.out; have z4 := HD3.out; have z5 := HC6.out; have z6 := HC8.out; have z7 := HD7.out; have z8 := HC10.out; have z9 := HL9.out; have z10 := HD9.out; have z11 := HC12.out; have z12 := HC14.out; have z13 := HC16.out; have z14 := HC17.out; have z15 := HC19.out; omega))
  have HR1_19 := Lib.hid (HM15.out.on hb (by have z0 := HC0.out; have z1 := HC2.out; have z2 := HC4.out; have z3 := HL3.out; have z4 := HD3.out; have z5 := HC6.out; have z6 := HC8.out; have z7 := HD7.out; have z8 := HC10.out; have z9 := HL9.out; have z10 := HD9.out; have z11 := HC12.out; have z12 := HC14.out; have z13 := HC16.out; have z14 := HC17.out; have z15 := HC19.out; omega))
  have HR2_19 := Lib.hid (HR2_17.out.on hb (by have z0 := HC0.out; have z1 := HC2.out; have z2 := HC4.out; have z3 := HL3.out; have z4 := HD3.out; have z5 := HC6.out; have z6 := HC8.out; have z7 := HD7.out; have z8 := HC10.out; have z9 := HL9.out; have z10 := HD9.out; have z11 := HC12.out; have z12 := HC14.out; have z13 := HC16.out; have z14 := HC17.out; have z15 := HC19.out; omega))
  clear hb
  clear q2_0 q2_1 q2_2 q2_3 q4_0 q4_1 q4_2 q4_3
  clear hk1
  have q4_0 := HX4_19.out.at_ 0 _ rfl
  have q4_1 := HX4_19.out.at_ 1 _ rfl
  have q4_2 := HX4_19.out.at_ 2 _ rfl
  have q4_3 := HX4_19.out.at_ 3 _ rfl
  go_wp2_with fail
  refine (markG_any _ _ _ _ _ _ _ _ _ _ HR2_19.out (by have z0 := HC0.out; have z1 := HC2.out; have z2 := HC4.out; have z3 := HL3.out; have z4 := HD3.out; have z5 := HC6.out; have z6 := HC8.out; have z7 := HD7.out; have z8 := HC10.out; have z9 := HL9.out; have z10 := HD9.out; have z11 := HC12.out; have z12 := HC14.out; have z13 := HC16.out; have z14 := HC17.out; have z15 := HC19.out; omega) hres).mono ?_
  rintro e w20 ⟨rfl, v20, hb, hO, hF⟩
  have HB21 := Lib.hid (bthen HB19.out hb HB19.out.size)
  have HC21 := Lib.hid hb.size
  have HX0_21 := Lib.hid (HX0_19.out.next hb)
  have HX1_21 := Lib.hid (HX1_19.out.next hb)
  have HX2_21 := Lib.hid (HX2_19.out.next hb)
  have HX3_21 := Lib.hid (HX3_19.out.next hb)
  have HX4_21 := Lib.hid (HX4_19.out.next hb)
  have HR0_21 := Lib.hid (HR0_19.out.on hb (by have z0 := HC0.out; have z1 := HC2.out; have z2 := HC4.out; have z3 := HL3.out; have z4 := HD3.out; have z5 := HC6.out; have z6 := HC8.out; have z7 := HD7.out; have z8 := HC10.out; have z9 := HL9.out; have z10 := HD9.out; have z11 := HC12.out; have z12 := HC14.out; have z13 := HC16.out; have z14 := HC17.out; have z15 := HC19.out; have z16 := HC21.out; omega))
  have HR1_21 := Lib.hid (HR1_19.out.on hb (by have z0 := HC0.out; have z1 := HC2.out; have z2 := HC4.out; have z3 := HL3.out; have z4 := HD3.out; have z5 := HC6.out; have z6 := HC8.out; have z7 := HD7.out; have z8 := HC10.out; have z9 := HL9.out; have z10 := HD9.out; have z11 := HC12.out; have z12 := HC14.out; have z13 := HC16.out; have z14 := HC17.out; have z15 := HC19.out; have z16 := HC21.out; omega))
  have HR2_21 := Lib.hid (HR2_19.out.on hb (by have z0 := HC0.out; have z1 := HC2.out; have z2 := HC4.out; have z3 := HL3.out; have z4 := HD3.out; have z5 := HC6.out; have z6 := HC8.out; have z7 := HD7.out; have z8 := HC10.out; have z9 := HL9.out; have z10 := HD9.out; have z11 := HC12.out; have z12 := HC14.out; have z13 := HC16.out; have z14 := HC17.out; have z15 := HC19.out; have z16 := HC21.out; omega))
  clear hb
  have HB22 := Lib.hid (HB21.out.trans (hF.below (by have z0 := HC0.out; have z1 := HC2.out; have z2 := HC4.out; have z3 := HL3.out; have z4 := HD3.out; have z5 := HC6.out; have z6 := HC8.out; have z7 := HD7.out; have z8 := HC10.out; have z9 := HL9.out; have z10 := HD9.out; have z11 := HC12.out; have z12 := HC14.out; have z13 := HC16.out; have z14 := HC17.out; have z15 := HC19.out; have z16 := HC21.out; omega) HB21.out.size))
  have HC22 := Lib.hid (Nat.le_of_eq hF.size.symm)
  have HX0_22 := Lib.hid (HX0_21.out.farF hF (by have y := HX0_21.out.1; have z0 := HC0.out; have z1 := HC2.out; have z2 := HC4.out; have z3 := HL3.out; have z4 := HD3.out; have z5 := HC6.out; have z6 := HC8.out; have z7 := HD7.out; have z8 := HC10.out; have z9 := HL9.out; have z10 := HD9.out; have z11 := HC12.out; have z12 := HC14.out; have z13 := HC16.out; have z14 := HC17.out; have z15 := HC19.out; have z16 := HC21.out; have z17 := HC22.out; omega))
  have HX1_22 := Lib.hid (HX1_21.out.farF hF (by have y := HX1_21.out.1; have z0 := HC0.out; have z1 := HC2.out; have z2 := HC4.out; have z3 := HL3.out; have z4 := HD3.out; have z5 := HC6.out; have z6 := HC8.out; have z7 := HD7.out; have z8 := HC10.out; have z9 := HL9.out; have z10 := HD9.out; have z11 := HC12.out; have z12 := HC14.out; have z13 := HC16.out; have z14 := HC17.out; have z15 := HC19.out; have z16 := HC21.out; have z17 := HC22.out; omega))
  have HX2_22 := Lib.hid (HX2_21.out.farF hF (by have y := HX2_21.out.1; have z0 := HC0.out; have z1 := HC2.out; have z2 := HC4.out; have z3 := HL3.out; have z4 := HD3.out; have z5 := HC6.out; have z6 := HC8.out; have z7 := HD7.out; have z8 := HC10.out; have z9 := HL9.out; have z10 := HD9.out; have z11 := HC12.out; have z12 := HC14.out; have z13 := HC16.out; have z14 := HC17.out; have z15 := HC19.out; have z16 := HC21.out; have z17 := HC22.out; omega))
  have HX3_22 := Lib.hid (HX3_21.out.farF hF (by have y := HX3_21.out.1; have z0 := HC0.out; have z1 := HC2.out; have z2 := HC4.out; have z3 := HL3.out; have z4 := HD3.out; have z5 := HC6.out; have z6 := HC8.out; have z7 := HD7.out; have z8 := HC10.out; have z9 := HL9.out; have z10 := HD9.out; have z11 := HC12.out; have z12 := HC14.out; have z13 := HC16.out; have z14 := HC17.out; have z15 := HC19.out; have z16 := HC21.out; have z17 := HC22.out; omega))
  have HX4_22 := Lib.hid (HX4_21.out.farF hF (by have y := HX4_21.out.1; have z0 := HC0.out; have z1 := HC2.out; have z2 := HC4.out; have z3 := HL3.out; have z4 := HD3.out; have z5 := HC6.out; have z6 := HC8.out; have z7 := HD7.out; have z8 := HC10.out; have z9 := HL9.out; have z10 := HD9.out; have z11 := HC12.out; have z12 := HC14.out; have z13 := HC16.out; have z14 := HC17.out; have z15 := HC19.out; have z16 := HC21.out; have z17 := HC22.out; omega))
  have HR0_22 := Lib.hid (HR0_21.out.far hF (by have z0 := HC0.out; have z1 := HC2.out; have z2 := HC4.out; have z3 := HL3.out; have z4 := HD3.out; have z5 := HC6.out; have z6 := HC8.out; have z7 := HD7.out; have z8 := HC10.out; have z9 := HL9.out; have z10 := HD9.out; have z11 := HC12.out; have z12 := HC14.out; have z13 := HC16.out; have z14 := HC17.out; have z15 := HC19.out; have z16 := HC21.out; have z17 := HC22.out; omega) (by have z0 := HC0.out; have z1 := HC2.out; have z2 := HC4.out; have z3 := HL3.out; have z4 := HD3.out; have z5 := HC6.out; have z6 := HC8.out; have z7 := HD7.out; have z8 := HC10.out; have z9 := HL9.out; have z10 := HD9.out; have z11 := HC12.out; have z12 := HC14.out; have z13 := HC16.out; have z14 := HC17.out; have z15 := HC19.out; have z16 := HC21.out; have z17 := HC22.out; omega))
  have HR1_22 := Lib.hid (HR1_21.out.far hF (by have z0 := HC0.out; have z1 := HC2.out; have z2 := HC4.out; have z3 := HL3.out; have z4 := HD3.out; have z5 := HC6.out; have z6 := HC8.out; have z7 := HD7.out; have z8 := HC10.out; have z9 := HL9.out; have z10 := HD9.out; have z11 := HC12.out; have z12 := HC14.out; have z13 := HC16.out; have z14 := HC17.out; have z15 := HC19.out; have z16 := HC21.out; have z17 := HC22.out; omega) (by have z0 := HC0.out; have z1 := HC2.out; have z2 := HC4.out; have z3 := HL3.out; have z4 := HD3.out; have z5 := HC6.out; have z6 := HC8.out; have z7 := HD7.out; have z8 := HC10.out; have z9 := HL9.out; have z10 := HD9.out; have z11 := HC12.out; have z12 := HC14.out; have z13 := HC16.out; have z14 := HC17.out; have z15 := HC19.out; have z16 := HC21.out; have z17 := HC22.out; omega))
  clear hF
  have HM20 := Lib.hid hO
  clear hO q4_0 q4_1 q4_2 q4_3
  have q4_0 := HX4_22.out.at_ 0 _ rfl
  have q4_1 := HX4_22.out.at_ 1 _ rfl
  have q4_2 := HX4_22.out.at_ 2 _ rfl
  have q4_3 := HX4_22.out.at_ 3 _ rfl
  go_wp2_with fail
  refine (heldG_any _ _ _ _ _ _ _ _ _ HM20.out (by have z0 := HC0.out; have z1 := HC2.out; have z2 := HC4.out; have z3 := HL3.out; have z4 := HD3.out; have z5 := HC6.out; have z6 := HC8.out; have z7 := HD7.out; have z8 := HC10.out; have z9 := HL9.out; have z10 := HD9.out; have z11 := HC12.out; have z12 := HC14.out; have z13 := HC16.out; have z14 := HC17.out; have z15 := HC19.out; have z16 := HC21.out; have z17 := HC22.out; omega) hres).mono ?_
  rintro e w23 ⟨rfl, hb⟩
  have HB24 := Lib.hid (bthen HB22.out hb HB22.out.size)
  have HC24 := Lib.hid hb.size
  have HX0_24 := Lib.hid (HX0_22.out.next hb)
  have HX1_24 := Lib.hid (HX1_22.out.next hb)
  have HX2_24 := Lib.hid (HX2_22.out.next hb)
  have HX3_24 := Lib.hid (HX3_22.out.next hb)
  have HX4_24 := Lib.hid (HX4_22.out.next hb)
  have HR0_24 := Lib.hid (HR0_22.out.on hb (by have z0 := HC0.out; have z1 := HC2.out; have z2 := HC4.out; have z3 := HL3.out; have z4 := HD3.out; have z5 := HC6.out; have z6 := HC8.out; have z7 := HD7.out; have z8 := HC10.out; have z9 := HL9.out; have z10 := HD9.out; have z11 := HC12.out; have z12 := HC14.out; have z13 := HC16.out; have z14 := HC17.out; have z15 := HC19.out; have z16 := HC21.out; have z17 := HC22.out; have z18 := HC24.out; omega))
  have HR1_24 := Lib.hid (HR1_22.out.on hb (by have z0 := HC0.out; have z1 := HC2.out; have z2 := HC4.out; have z3 := HL3.out; have z4 := HD3.out; have z5 := HC6.out; have z6 := HC8.out; have z7 := HD7.out; have z8 := HC10.out; have z9 := HL9.out; have z10 := HD9.out; have z11 := HC12.out; have z12 := HC14.out; have z13 := HC16.out; have z14 := HC17.out; have z15 := HC19.out; have z16 := HC21.out; have z17 := HC22.out; have z18 := HC24.out; omega))
  have HR2_24 := Lib.hid (HM20.out.on hb (by have z0 := HC0.out; have z1 := HC2.out; have z2 := HC4.out; have z3 := HL3.out; have z4 := HD3.out; have z5 := HC6.out; have z6 := HC8.out; have z7 := HD7.out; have z8 := HC10.out; have z9 := HL9.out; have z10 := HD9.out; have z11 := HC12.out; have z12 := HC14.out; have z13 := HC16.out; have z14 := HC17.out; have z15 := HC19.out; have z16 := HC21.out; have z17 := HC22.out; have z18 := HC24.out; omega))
  clear hb
  clear q4_0 q4_1 q4_2 q4_3
  have hk2 : 0 ≤ 2 * (((adLs id ze nm l t y).length : Nat) : Int) + 1 := by omega
  go_wp2_with fail
  refine reg24 rfl id ze nm A c l t y _ _ _ (spots_at hs HB24.out) hle hm hn HX0_24.out HX1_24.out _ _ _ _ _ _ _ _ _ _ _ _ _ _ _ _ _ _ _ _ _ _ _ _ _ _ _ _ _ _ _ _ _ _ _ _ _ _ _ _ _ _ _ _ _ _ _ _ _ _ _ _ _ _ _ _ _ _ _ _ _ _ _ _ _ _ _ _ _ _ _ _ _ _ _ _ _ _ _ _ _ _ _ _ _ _ _ _ _ _ _ _ _ _ _ _ _ _ _ _ _ _ (fun gs25 lo25 hi25 A25 c25 z25_80 z25_81 z25_82 z25_83 z25_84 z25_79 z25_85 z25_86 Y25 hW => ?_)
  have hb := hW.out.1
  have HB26 := Lib.hid (bthen HB24.out hb HB24.out.size)
  have HC26 := Lib.hid hb.size
  have HX0_26 := Lib.hid (HX0_24.out.next hb)
  have HX1_26 := Lib.hid (HX1_24.out.next hb)
  have HX2_26 := Lib.hid (HX2_24.out.next hb)
  have HX3_26 := Lib.hid (HX3_24.out.next hb)
  have HX4_26 := Lib.hid (HX4_24.out.next hb)
  have HR0_26 := Lib.hid (HR0_24.out.on hb (by have z0 := HC0.out; have z1 := HC2.out; have z2 := HC4.out; have z3 := HL3.out; have z4 := HD3.out; have z5 := HC6.out; have z6 := HC8.out; have z7 := HD7.out; have z8 := HC10.out; have z9 := HL9.out; have z10 := HD9.out; have z11 := HC12.out; have z12 := HC14.out; have z13 := HC16.out; have z14 := HC17.out; have z15 := HC19.out; have z16 := HC21.out; have z17 := HC22.out; have z18 := HC24.out; have z19 := HC26.out; omega))
  have HR1_26 := Lib.hid (HR1_24.out.on hb (by have z0 := HC0.out; have z1 := HC2.out; have z2 := HC4.out; have z3 := HL3.out; have z4 := HD3.out; have z5 := HC6.out; have z6 := HC8.out; have z7 := HD7.out; have z8 := HC10.out; have z9 := HL9.out; have z10 := HD9.out; have z11 := HC12.out; have z12 := HC14.out; have z13 := HC16.out; have z14 := HC17.out; have z15 := HC19.out; have z16 := HC21.out; have z17 := HC22.out; have z18 := HC24.out; have z19 := HC26.out; omega))
  have HR2_26 := Lib.hid (HR2_24.out.on hb (by have z0 := HC0.out; have z1 := HC2.out; have z2 := HC4.out; have z3 := HL3.out; have z4 := HD3.out; have z5 := HC6.out; have z6 := HC8.out; have z7 := HD7.out; have z8 := HC10.out; have z9 := HL9.out; have z10 := HD9.out; have z11 := HC12.out; have z12 := HC14.out; have z13 := HC16.out; have z14 := HC17.out; have z15 := HC19.out; have z16 := HC21.out; have z17 := HC22.out; have z18 := HC24.out; have z19 := HC26.out; omega))
  clear hb
  have HL25 := Lib.hid hW.out.2.2.2
  have HG25 := Lib.hid hW.out.2.1
  have HO25 := Lib.hid hW.out.2.2.1
  have HD25 := Lib.hid hW.out.2.1.1
  clear hW
  have q2_0 := HX2_26.out.at_ 0 _ rfl
  have q2_1 := HX2_26.out.at_ 1 _ rfl
  have q2_2 := HX2_26.out.at_ 2 _ rfl
  have q2_3 := HX2_26.out.at_ 3 _ rfl
  have q5_0 := HG25.out.at_ 0 _ rfl
  have q5_1 := HG25.out.at_ 1 _ rfl
  have q5_2 := HG25.out.at_ 2 _ rfl
  have q5_3 := HG25.out.at_ 3 _ rfl
  go_wp2_with fail
  refine (eqG_same _ _ _ _ _ _ _ _ _ _ (HO25.out.spots (by have z0 := HC0.out; have z1 := HC2.out; have z2 := HC4.out; have z3 := HL3.out; have z4 := HD3.out; have z5 := HC6.out; have z6 := HC8.out; have z7 := HD7.out; have z8 := HC10.out; have z9 := HL9.out; have z10 := HD9.out; have z11 := HC12.out; have z12 := HC14.out; have z13 := HC16.out; have z14 := HC17.out; have z15 := HC19.out; have z16 := HC21.out; have z17 := HC22.out; have z18 := HC24.out; have z19 := HC26.out; have z20 := HL25.out; have z21 := HD25.out; omega)) (HR0_26.out.spots (by have z0 := HC0.out; have z1 := HC2.out; have z2 := HC4.out; have z3 := HL3.out; have z4 := HD3.out; have z5 := HC6.out; have z6 := HC8.out; have z7 := HD7.out; have z8 := HC10.out; have z9 := HL9.out; have z10 := HD9.out; have z11 := HC12.out; have z12 := HC14.out; have z13 := HC16.out; have z14 := HC17.out; have z15 := HC19.out; have z16 := HC21.out; have z17 := HC22.out; have z18 := HC24.out; have z19 := HC26.out; have z20 := HL25.out; have z21 := HD25.out; omega)) (by unfold maxLen; omega)).mono ?_
  rintro e w27 ⟨rfl, hb⟩
  have HB28 := Lib.hid (bthen HB26.out hb HB26.out.size)
  have HC28 := Lib.hid hb.size
  have HX0_28 := Lib.hid (HX0_26.out.next hb)
  have HX1_28 := Lib.hid (HX1_26.out.next hb)
  have HX2_28 := Lib.hid (HX2_26.out.next hb)
  have HX3_28 := Lib.hid (HX3_26.out.next hb)
  have HX4_28 := Lib.hid (HX4_26.out.next hb)
  have HX5_28 := Lib.hid (HG25.out.next hb)
  have HR0_28 := Lib.hid (HR0_26.out.on hb (by have z0 := HC0.out; have z1 := HC2.out; have z2 := HC4.out; have z3 := HL3.out; have z4 := HD3.out; have z5 := HC6.out; have z6 := HC8.out; have z7 := HD7.out; have z8 := HC10.out; have z9 := HL9.out; have z10 := HD9.out; have z11 := HC12.out; have z12 := HC14.out; have z13 := HC16.out; have z14 := HC17.out; have z15 := HC19.out; have z16 := HC21.out; have z17 := HC22.out; have z18 := HC24.out; have z19 := HC26.out; have z20 := HL25.out; have z21 := HD25.out; have z22 := HC28.out; omega))
  have HR1_28 := Lib.hid (HR1_26.out.on hb (by have z0 := HC0.out; have z1 := HC2.out; have z2 := HC4.out; have z3 := HL3.out; have z4 := HD3.out; have z5 := HC6.out; have z6 := HC8.out; have z7 := HD7.out; have z8 := HC10.out; have z9 := HL9.out; have z10 := HD9.out; have z11 := HC12.out; have z12 := HC14.out; have z13 := HC16.out; have z14 := HC17.out; have z15 := HC19.out; have z16 := HC21.out; have z17 := HC22.out; have z18 := HC24.out; have z19 := HC26.out; have z20 := HL25.out; have z21 := HD25.out; have z22 := HC28.out; omega))
  have HR2_28 := Lib.hid (HR2_26.out.on hb (by have z0 := HC0.out; have z1 := HC2.out; have z2 := HC4.out; have z3 := HL3.out; have z4 := HD3.out; have z5 := HC6.out; have z6 := HC8.out; have z7 := HD7.out; have z8 := HC10.out; have z9 := HL9.out; have z10 := HD9.out; have z11 := HC12.out; have z12 := HC14.out; have z13 := HC16.out; have z14 := HC17.out; have z15 := HC19.out; have z16 := HC21.out; have z17 := HC22.out; have z18 := HC24.out; have z19 := HC26.out; have z20 := HL25.out; have z21 := HD25.out; have z22 := HC28.out; omega))
  have HR3_28 := Lib.hid (HO25.out.on hb (by have z0 := HC0.out; have z1 := HC2.out; have z2 := HC4.out; have z3 := HL3.out; have z4 := HD3.out; have z5 := HC6.out; have z6 := HC8.out; have z7 := HD7.out; have z8 := HC10.out; have z9 := HL9.out; have z10 := HD9.out; have z11 := HC12.out; have z12 := HC14.out; have z13 := HC16.out; have z14 := HC17.out; have z15 := HC19.out; have z16 := HC21.out; have z17 := HC22.out; have z18 := HC24.out; have z19 := HC26.out; have z20 := HL25.out; have z21 := HD25.out; have z22 := HC28.out; omega))
  clear hb
  clear q2_0 q2_1 q2_2 q2_3 q5_0 q5_1 q5_2 q5_3
  have q4_0 := HX4_28.out.at_ 0 _ rfl
  have q4_1 := HX4_28.out.at_ 1 _ rfl
  have q4_2 := HX4_28.out.at_ 2 _ rfl
  have q4_3 := HX4_28.out.at_ 3 _ rfl
  go_wp2_with fail
  refine (heldG_any _ _ _ _ _ _ _ _ _ HR2_28.out (by have z0 := HC0.out; have z1 := HC2.out; have z2 := HC4.out; have z3 := HL3.out; have z4 := HD3.out; have z5 := HC6.out; have z6 := HC8.out; have z7 := HD7.out; have z8 := HC10.out; have z9 := HL9.out; have z10 := HD9.out; have z11 := HC12.out; have z12 := HC14.out; have z13 := HC16.out; have z14 := HC17.out; have z15 := HC19.out; have z16 := HC21.out; have z17 := HC22.out; have z18 := HC24.out; have z19 := HC26.out; have z20 := HL25.out; have z21 := HD25.out; have z22 := HC28.out; omega) hres).mono ?_
  rintro e w29 ⟨rfl, hb⟩
  have HB30 := Lib.hid (bthen HB28.out hb HB28.out.size)
  have HC30 := Lib.hid hb.size
  have HX0_30 := Lib.hid (HX0_28.out.next hb)
  have HX1_30 := Lib.hid (HX1_28.out.next hb)
  have HX2_30 := Lib.hid (HX2_28.out.next hb)
  have HX3_30 := Lib.hid (HX3_28.out.next hb)
  have HX4_30 := Lib.hid (HX4_28.out.next hb)
  have HX5_30 := Lib.hid (HX5_28.out.next hb)
  have HR0_30 := Lib.hid (HR0_28.out.on hb (by have z0 := HC0.out; have z1 := HC2.out; have z2 := HC4.out; have z3 := HL3.out; have z4 := HD3.out; have z5 := HC6.out; have z6 := HC8.out; have z7 := HD7.out; have z8 := HC10.out; have z9 := HL9.out; have z10 := HD9.out; have z11 := HC12.out; have z12 := HC14.out; have z13 := HC16.out; have z14 := HC17.out; have z15 := HC19.out; have z16 := HC21.out; have z17 := HC22.out; have z18 := HC24.out; have z19 := HC26.out; have z20 := HL25.out; have z21 := HD25.out; have z22 := HC28.out; have z23 := HC30.out; omega))
  have HR1_30 := Lib.hid (HR1_28.out.on hb (by have z0 := HC0.out; have z1 := HC2.out; have z2 := HC4.out; have z3 := HL3.out; have z4 := HD3.out; have z5 := HC6.out; have z6 := HC8.out; have z7 := HD7.out; have z8 := HC10.out; have z9 := HL9.out; have z10 := HD9.out; have z11 := HC12.out; have z12 := HC14.out; have z13 := HC16.out; have z14 := HC17.out; have z15 := HC19.out; have z16 := HC21.out; have z17 := HC22.out; have z18 := HC24.out; have z19 := HC26.out; have z20 := HL25.out; have z21 := HD25.out; have z22 := HC28.out; have z23 := HC30.out; omega))
  have HR2_30 := Lib.hid (HR2_28.out.on hb (by have z0 := HC0.out; have z1 := HC2.out; have z2 := HC4.out; have z3 := HL3.out; have z4 := HD3.out; have z5 := HC6.out; have z6 := HC8.out; have z7 := HD7.out; have z8 := HC10.out; have z9 := HL9.out; have z10 := HD9.out; have z11 := HC12.out; have z12 := HC14.out; have z13 := HC16.out; have z14 := HC17.out; have z15 := HC19.out; have z16 := HC21.out; have z17 := HC22.out; have z18 := HC24.out; have z19 := HC26.out; have z20 := HL25.out; have z21 := HD25.out; have z22 := HC28.out; have z23 := HC30.out; omega))
  have HR3_30 := Lib.hid (HR3_28.out.on hb (by have z0 := HC0.out; have z1 := HC2.out; have z2 := HC4.out; have z3 := HL3.out; have z4 := HD3.out; have z5 := HC6.out; have z6 := HC8.out; have z7 := HD7.out; have z8 := HC10.out; have z9 := HL9.out; have z10 := HD9.out; have z11 := HC12.out; have z12 := HC14.out; have z13 := HC16.out; have z14 := HC17.out; have z15 := HC19.out; have z16 := HC21.out; have z17 := HC22.out; have z18 := HC24.out; have z19 := HC26.out; have z20 := HL25.out; have z21 := HD25.out; have z22 := HC28.out; have z23 := HC30.out; omega))
  clear hb
  clear q4_0 q4_1 q4_2 q4_3
  go_wp2_with fail
  go_ret
  exact ⟨rfl, HB30.out⟩

/-! ### The row's step. -/
set_option maxRecDepth 100000 in
theorem lifted (os : Os) (started : os.Started) (H : Type) (enc : TypeId × Value → H) :
    ReturnsInHanded {} Try.checked os 7 .any (Rows.fnExactAddReadingSpec.pre6 enc Try.prog Try.f7 Rows.fnExactAddReadingRow.domain false) (Rows.fnExactAddReadingSpec.post enc Try.prog Try.f7 false true false false) := by
  refine returnsInHanded_of_change (C := Try.checked) own started (by kernel_rfl) Try.func7
    (ChangeSpec.witness6 (enc := enc) (C := Try.checked) false ⟨#[], #[.agg #[.int .i64 0, .string ⟨#[]⟩, .int .i64 0, .slice none 0 0], .agg #[.int .i64 0, .int .i64 0]], []⟩ 8 (by kernel_rfl) (by kernel_rfl) (by kernel_rfl) (by kernel_rfl)) ?_
  intro W base args ds gs before hval0 hW hcnd _
  have hval : ∀ (j : Nat) t v, Try.f7.params[j]? = some t → args[j]? = some v → Value.okWide Try.prog W .any base t v := hval0
  have hW' := hW
  obtain ⟨p, q, hA0, hV, rfl, hfz, hnd⟩ := hW
  have hA : DataW.TrodAll enc Try.prog W 0 (fun _ => true) true Try.f7.params.toList args.toList ds p := hA0
  rw [Try.params7] at hA hval
  obtain ⟨v0, vs0, d0, ds0, p0, q0, hargs, rfl, rfl, h0, r0⟩ := trodAll_cons hA
  obtain ⟨v1, vs1, d1, ds1, p1, q1, rfl, rfl, rfl, h1, r1⟩ := trodAll_cons r0
  obtain ⟨rfl, rfl, rfl⟩ := trodAll_nil r1
  obtain rfl : args = #[v0, v1] := by cases args; simp_all
  obtain ⟨rfl, rfl⟩ := trodVars_none hV
  have k0 := h0
  have lt0 : ∀ x ∈ p0, x.block < W.heap.size := by obtain ⟨m, hm⟩ := k0; exact DataW.trod_lt m _ _ _ hm
  obtain ⟨id0, nm0, ze0, A0, n0, c0, rfl, z0, m0, l0, w0⟩ := open_gauge (hval 0 83 v0 rfl rfl) h0
  have k1 := h1
  have lt1 : ∀ x ∈ p1, x.block < W.heap.size := by obtain ⟨m, hm⟩ := k1; exact DataW.trod_lt m _ _ _ hm
  obtain ⟨x1, y1, rfl⟩ := open_reading (hval 1 84 v1 rfl rfl) h1
  clear hA0 hval0
  refine (walk id0 ze0 nm0 A0 n0 c0 l0 x1 y1 W w0 m0 z0).mono fun e W1 ⟨he, bel⟩ => ?_
  subst he
  exact ⟨_, rfl, _, _, _, [], _, [], hW', trodAll_mk1 (shut_bool Try.underlying4 _), (trodAll_cons_mk (Below.trod laidOut (by kernel_rfl) (of_decide_eq_true (by kernel_rfl)) k0 bel lt0) (trodAll_cons_mk (Below.trod laidOut (by kernel_rfl) (of_decide_eq_true (by kernel_rfl)) k1 bel lt1) trodAll_mk0)), rfl, bel.frame _, fun h => by cases h⟩

/-- The statement. -/
theorem proved : Rows.FnExactAddReadingSaid :=
  OpenClaim.holds_of_wide 7 Try.f7 rfl rfl rfl rfl rfl rfl rfl ⟨rfl, rfl, rfl, rfl, rfl⟩ rfl rfl rfl rfl rfl (by kernel_rfl) Try.func7 (by kernel_rfl)
    (of_decide_eq_true (by kernel_rfl)) (by unfold Func.isWrapper; first | (rw [if_pos (by decide +kernel)]; kernel_rfl) | (rw [if_neg (by decide +kernel)]; exact ⟨rfl, rfl⟩))
    (fun os started H enc _ => lifted os started H enc)
#print axioms proved
end Go.Proofs.Ytgbldmihbgppmaa.fnExactAddReading
