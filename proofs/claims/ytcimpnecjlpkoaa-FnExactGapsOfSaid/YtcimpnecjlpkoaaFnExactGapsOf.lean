/-
  Proved here: for every gauge and number the law laws.FnExactGapsOf returns true (impl.GapsOf answers as spec.GapsOf, writes into no argument, and its answer owns its memory), and the arguments read afterwards as before.
  Conditions: none beyond the row's own.
-/
import Derived.Test.YtcimpnecjlpkoaaOg
import Derived.Test.YtcimpnecjlpkoaaGl
import Derived.Test.YtcimpnecjlpkoaaGapsS
namespace Go.Proofs.Ytcimpnecjlpkoaa.fnExactGapsOf
open Go.Joins Go.ChangeShapes Go.WideShapes Go.ChangeAt Go.RowKit Go.Deep
set_option linter.unusedVariables false

/-! ### The walk: the Go text returns true, and nothing that was there has turned. -/
set_option maxRecDepth 20000 in
set_option maxHeartbeats 3200000 in
theorem walk (id ze : Int) (nm : ByteArray) (A : Option Addr) (n c : Nat) (l : List (Int × Int)) (t : Int) (w : World) (hs : Spots w w.heap.size A n l) (hm : n ≤ maxLen) (hn : nm.size ≤ maxLen) :
    Calls Try.prog 9 #[.agg #[.int .i64 id, .string nm, .int .i64 ze, .slice A n c], .int .i64 t] w fun e w' => e = .returned (.bool true) ∧ Below w.heap.size w w' := by
  have HX := Lib.hid (box1 (cs := #[.int .i64 id, .string nm, .int .i64 ze, .slice A n c]) (T := 62) (Below.refl _ _) (w := w))
  by_cases h0 : (1048576 : Int) < (nm.size : Int) + n
  · go_enter Try.func9, Try.ntmps9
    go_wp2_with fail
    refine (szG_neg _ _ _ _ _ _ _ _ (by omega) (by omega) hn hm h0).mono ?_
    rintro e w1 ⟨rfl, hb⟩
    have HT := Lib.hid (bthen HX.out.1 hb HX.out.1.size)
    clear hb
    go_wp2_with fail
    go_ret
    exact ⟨rfl, HT.out⟩
  have hle : n ≤ 1048576 := by omega
  have hsz : 0 ≤ (1048576 : Int) - nm.size - n := by omega
  obtain rfl := hs.1
  have hres : (gpR id ze nm l t).length ≤ 1048576 := gpR_len id ze nm l t
  have HSz := Lib.hid (And.intro hle hsz)
  obtain ⟨V0, hV⟩ : ∃ W, W = w.alloc (.cells #[.int .i64 id, .string nm, .int .i64 ze, .slice A l.length c] 62) := ⟨_, rfl⟩
  have HN0 : Hid (Below w.heap.size w V0 ∧ Has V0 w.heap.size [.int .i64 id, .string nm, .int .i64 ze, .slice A l.length c]) := by rw [hV]; exact box1 (Below.refl _ _)
  have HB0 := Lib.hid HN0.out.1
  have HX0 := Lib.hid HN0.out.2
  have HC0 := Lib.hid HN0.out.2.1
  have HE0 := Lib.hid hV
  clear hV h0 HX
  go_enter Try.func9, Try.ntmps9
  go_wp2_with fail
  rw [← HE0.out]
  refine (szG_pos _ _ _ _ _ _ _ _ (by omega) (by omega)).mono ?_
  rintro e w1 ⟨rfl, hb⟩
  have HB2 := Lib.hid (bthen HB0.out hb HB0.out.size)
  have HC2 := Lib.hid hb.size
  have HX0_2 := Lib.hid (HX0.out.next hb)
  clear hb
  have q0_0 := HX0_2.out.at_ 0 _ rfl
  have q0_1 := HX0_2.out.at_ 1 _ rfl
  have q0_2 := HX0_2.out.at_ 2 _ rfl
  have q0_3 := HX0_2.out.at_ 3 _ rfl
  go_wp2_with fail
  refine (toGauge_any _ _ _ _ _ _ l _ (spots_at hs HB2.out) hle).mono ?_
  rintro e w3 ⟨g3, rfl, hO, hb⟩
  have HB4 := Lib.hid (bthen HB2.out hb HB2.out.size)
  have HC4 := Lib.hid hb.size
  have HX0_4 := Lib.hid (HX0_2.out.next hb)
  clear hb
  have HO3 := Lib.hid hO
  clear hO q0_0 q0_1 q0_2 q0_3
  go_wp2_with fail
  refine (gaps_spec _ _ _ _ _ _ l _ _ (HO3.out.spots (by have z0 := HC0.out; have z1 := HC2.out; have z2 := HC4.out; omega)) hm hn).mono ?_
  rintro e w5 ⟨A5, c5, G5, rfl, hO, hb⟩
  have HB6 := Lib.hid (bthen HB4.out hb HB4.out.size)
  have HC6 := Lib.hid hb.size
  have HX0_6 := Lib.hid (HX0_4.out.next hb)
  have HR0_6 := Lib.hid (HO3.out.on hb (by have z0 := HC0.out; have z1 := HC2.out; have z2 := HC4.out; have z3 := HC6.out; omega))
  clear hb
  have HO5 := Lib.hid hO
  clear hO
  have q0_0 := HX0_6.out.at_ 0 _ rfl
  have q0_1 := HX0_6.out.at_ 1 _ rfl
  have q0_2 := HX0_6.out.at_ 2 _ rfl
  have q0_3 := HX0_6.out.at_ 3 _ rfl
  go_wp2_with fail
  refine (toGauge_any _ _ _ _ _ _ l _ (spots_at hs HB6.out) hle).mono ?_
  rintro e w7 ⟨g7, rfl, hO, hb⟩
  have HB8 := Lib.hid (bthen HB6.out hb HB6.out.size)
  have HC8 := Lib.hid hb.size
  have HX0_8 := Lib.hid (HX0_6.out.next hb)
  have HR0_8 := Lib.hid (HO5.out.on hb (by have z0 := HC0.out; have z1 := HC2.out; have z2 := HC4.out; have z3 := HC6.out; have z4 := HC8.out; omega))
  clear hb
  have HO7 := Lib.hid hO
  clear hO q0_0 q0_1 q0_2 q0_3
  obtain ⟨V9, hV⟩ : ∃ W, W = w7.alloc (.cells #[.int .i64 id, .string nm, .int .i64 ze, .slice (some ⟨g7, 0, none⟩) l.length l.length] 26) := ⟨_, rfl⟩
  have HN9 : Hid (Below w7.heap.size w7 V9 ∧ Has V9 w7.heap.size [.int .i64 id, .string nm, .int .i64 ze, .slice (some ⟨g7, 0, none⟩) l.length l.length]) := by rw [hV]; exact box1 (Below.refl _ _)
  have hb := HN9.out.1
  have HB10 := Lib.hid (bthen HB8.out hb HB8.out.size)
  have HC10 := Lib.hid hb.size
  have HX0_10 := Lib.hid (HX0_8.out.next hb)
  have HR0_10 := Lib.hid (HR0_8.out.on hb (by have z0 := HC0.out; have z1 := HC2.out; have z2 := HC4.out; have z3 := HC6.out; have z4 := HC8.out; have z5 := HC10.out; omega))
  have HR1_10 := Lib.hid (HO7.out.on hb (by have z0 := HC0.out; have z1 := HC2.out; have z2 := HC4.out; have z3 := HC6.out; have z4 := HC8.out; have z5 := HC10.out; omega))
  clear hb
  have HD9 := Lib.hid HN9.out.2.1
  have HNx9 := Lib.hid HN9.out.2
  have HE9 := Lib.hid hV
  clear hV
  have q1_0 := HNx9.out.at_ 0 _ rfl
  have q1_1 := HNx9.out.at_ 1 _ rfl
  have q1_2 := HNx9.out.at_ 2 _ rfl
  have q1_3 := HNx9.out.at_ 3 _ rfl
  go_wp2_with fail
  try rw [← HE9.out]
  refine (gaps_impl _ _ _ _ _ _ l _ _ (HR1_10.out.spots (by have z0 := HC0.out; have z1 := HC2.out; have z2 := HC4.out; have z3 := HC6.out; have z4 := HC8.out; have z5 := HC10.out; have z6 := HD9.out; omega)) hm hn).mono ?_
  rintro e w11 ⟨A11, c11, G11, rfl, hO, hb⟩
  have HB12 := Lib.hid (bthen HB10.out hb HB10.out.size)
  have HC12 := Lib.hid hb.size
  have HX0_12 := Lib.hid (HX0_10.out.next hb)
  have HX1_12 := Lib.hid (HNx9.out.next hb)
  have HR0_12 := Lib.hid (HR0_10.out.on hb (by have z0 := HC0.out; have z1 := HC2.out; have z2 := HC4.out; have z3 := HC6.out; have z4 := HC8.out; have z5 := HC10.out; have z6 := HD9.out; have z7 := HC12.out; omega))
  have HR1_12 := Lib.hid (HR1_10.out.on hb (by have z0 := HC0.out; have z1 := HC2.out; have z2 := HC4.out; have z3 := HC6.out; have z4 := HC8.out; have z5 := HC10.out; have z6 := HD9.out; have z7 := HC12.out; omega))
  clear hb
  have HO11 := Lib.hid hO
  clear hO
  clear q1_0 q1_1 q1_2 q1_3
  go_wp2_with fail
  refine (eqSS_b _ _ _ _ _ _ _ _ _ _ _ _ _ HO11.out HR0_12.out (by have z0 := HC0.out; have z1 := HC2.out; have z2 := HC4.out; have z3 := HC6.out; have z4 := HC8.out; have z5 := HC10.out; have z6 := HD9.out; have z7 := HC12.out; omega) (by have z0 := HC0.out; have z1 := HC2.out; have z2 := HC4.out; have z3 := HC6.out; have z4 := HC8.out; have z5 := HC10.out; have z6 := HD9.out; have z7 := HC12.out; omega) hres).mono ?_
  rintro e w13 ⟨rfl, hb⟩
  have HB14 := Lib.hid (bthen HB12.out hb HB12.out.size)
  have HC14 := Lib.hid hb.size
  have HX0_14 := Lib.hid (HX0_12.out.next hb)
  have HX1_14 := Lib.hid (HX1_12.out.next hb)
  have HR0_14 := Lib.hid (HR0_12.out.on hb (by have z0 := HC0.out; have z1 := HC2.out; have z2 := HC4.out; have z3 := HC6.out; have z4 := HC8.out; have z5 := HC10.out; have z6 := HD9.out; have z7 := HC12.out; have z8 := HC14.out; omega))
  have HR1_14 := Lib.hid (HR1_12.out.on hb (by have z0 := HC0.out; have z1 := HC2.out; have z2 := HC4.out; have z3 := HC6.out; have z4 := HC8.out; have z5 := HC10.out; have z6 := HD9.out; have z7 := HC12.out; have z8 := HC14.out; omega))
  have HR2_14 := Lib.hid (HO11.out.on hb (by have z0 := HC0.out; have z1 := HC2.out; have z2 := HC4.out; have z3 := HC6.out; have z4 := HC8.out; have z5 := HC10.out; have z6 := HD9.out; have z7 := HC12.out; have z8 := HC14.out; omega))
  clear hb
  have q0_0 := HX0_14.out.at_ 0 _ rfl
  have q0_1 := HX0_14.out.at_ 1 _ rfl
  have q0_2 := HX0_14.out.at_ 2 _ rfl
  have q0_3 := HX0_14.out.at_ 3 _ rfl
  have q1_0 := HX1_14.out.at_ 0 _ rfl
  have q1_1 := HX1_14.out.at_ 1 _ rfl
  have q1_2 := HX1_14.out.at_ 2 _ rfl
  have q1_3 := HX1_14.out.at_ 3 _ rfl
  go_wp2_with fail
  have HK : Hid ((∀ W : World, Below w13.heap.size w13 W → W.cell? ⟨w.heap.size, 0, none⟩ = some (.int .i64 id) ∧ W.cell? ⟨w.heap.size, 1, none⟩ = some (.string nm) ∧ W.cell? ⟨w.heap.size, 2, none⟩ = some (.int .i64 ze) ∧ W.cell? ⟨w.heap.size, 3, none⟩ = some (.slice A l.length c) ∧ W.cell? ⟨w7.heap.size, 0, none⟩ = some (.int .i64 id) ∧ W.cell? ⟨w7.heap.size, 1, none⟩ = some (.string nm) ∧ W.cell? ⟨w7.heap.size, 2, none⟩ = some (.int .i64 ze) ∧ W.cell? ⟨w7.heap.size, 3, none⟩ = some (.slice (some ⟨g7, 0, none⟩) l.length l.length) ∧ Hid (Below w13.heap.size w13 W)) ∧ (∀ W : World, (W.cell? ⟨w.heap.size, 0, none⟩ = some (.int .i64 id) ∧ W.cell? ⟨w.heap.size, 1, none⟩ = some (.string nm) ∧ W.cell? ⟨w.heap.size, 2, none⟩ = some (.int .i64 ze) ∧ W.cell? ⟨w.heap.size, 3, none⟩ = some (.slice A l.length c) ∧ W.cell? ⟨w7.heap.size, 0, none⟩ = some (.int .i64 id) ∧ W.cell? ⟨w7.heap.size, 1, none⟩ = some (.string nm) ∧ W.cell? ⟨w7.heap.size, 2, none⟩ = some (.int .i64 ze) ∧ W.cell? ⟨w7.heap.size, 3, none⟩ = some (.slice (some ⟨g7, 0, none⟩) l.length l.length) ∧ Hid (Below w13.heap.size w13 W)) → Below w13.heap.size w13 W)) := Lib.hid ⟨fun W h => ⟨cell_next h (by assumption), cell_next h (by assumption), cell_next h (by assumption), cell_next h (by assumption), cell_next h (by assumption), cell_next h (by assumption), cell_next h (by assumption), cell_next h (by assumption), Lib.hid h⟩, fun W h => h.2.2.2.2.2.2.2.2.out⟩
  go_region_held3 (fun W => W.cell? ⟨w.heap.size, 0, none⟩ = some (.int .i64 id) ∧ W.cell? ⟨w.heap.size, 1, none⟩ = some (.string nm) ∧ W.cell? ⟨w.heap.size, 2, none⟩ = some (.int .i64 ze) ∧ W.cell? ⟨w.heap.size, 3, none⟩ = some (.slice A l.length c) ∧ W.cell? ⟨w7.heap.size, 0, none⟩ = some (.int .i64 id) ∧ W.cell? ⟨w7.heap.size, 1, none⟩ = some (.string nm) ∧ W.cell? ⟨w7.heap.size, 2, none⟩ = some (.int .i64 ze) ∧ W.cell? ⟨w7.heap.size, 3, none⟩ = some (.slice (some ⟨g7, 0, none⟩) l.length l.length) ∧ Hid (Below w13.heap.size w13 W)) (first | with_reducible assumption | with_reducible exact HK.out.1 _ (Below.refl _ _).drew | with_reducible exact HK.out.1 _ (bthen (HK.out.2 _ (by assumption)) hb (HK.out.2 _ (by assumption)).size) | with_reducible exact HK.out.1 _ ((HK.out.2 _ (by assumption)).alloc (HK.out.2 _ (by assumption)).size _) | with_reducible exact HK.out.1 _ (HBw.out.alloc HBw.out.size _) | with_reducible exact HK.out.1 _ ((Below.refl _ _).alloc (Nat.le_refl _) _) | with_reducible exact HK.out.1 _ ((HK.out.2 _ (by assumption)).alloc (HK.out.2 _ (by assumption)).size _).drew | with_reducible exact HK.out.1 _ (HBw.out.alloc HBw.out.size _).drew | with_reducible exact HK.out.1 _ ((Below.refl _ _).alloc (Nat.le_refl _) _).drew) ((first | (go_at_call 48; refine (toGauge_any _ _ _ _ _ _ l _ (spots_at hs (bthen HB14.out (HK.out.2 _ (by assumption)) HB14.out.size)) HSz.out.1).mono ?_; rintro e w15 ⟨g15, rfl, hO, hb⟩; have HO7 := Lib.hid hO; have HBB := Lib.hid (bthen (HK.out.2 _ (by assumption)) hb (HK.out.2 _ (by assumption)).size); have HR7 := Lib.hid (HR1_14.out.on HBB.out (by have z0 := HC0.out; have z1 := HC2.out; have z2 := HC4.out; have z3 := HC6.out; have z4 := HC8.out; have z5 := HC10.out; have z6 := HD9.out; have z7 := HC12.out; have z8 := HC14.out; omega)); have HZ7 := Lib.hid HBB.out.size; clear hO; dsimp only) | (go_at_call 49; refine (eqG_same _ _ _ _ _ _ _ _ l _ (HR7.out.spots (by have z0 := HC0.out; have z1 := HC2.out; have z2 := HC4.out; have z3 := HC6.out; have z4 := HC8.out; have z5 := HC10.out; have z6 := HD9.out; have z7 := HC12.out; have z8 := HC14.out; have z9 := HZ7.out; omega)) (HO7.out.spots (Nat.le_refl _)) hm).mono ?_; rintro e w15x ⟨rfl, hb⟩; have HBw := Lib.hid (bthen (HK.out.2 _ (by assumption)) hb (HK.out.2 _ (by assumption)).size); dsimp only)))
  have hb := HK.out.2 _ (by assumption)
  clear HK q0_0 q0_1 q0_2 q0_3 q1_0 q1_1 q1_2 q1_3
  skip
  have HB16 := Lib.hid (bthen HB14.out hb HB14.out.size)
  have HC16 := Lib.hid hb.size
  have HX0_16 := Lib.hid (HX0_14.out.next hb)
  have HX1_16 := Lib.hid (HX1_14.out.next hb)
  have HR0_16 := Lib.hid (HR0_14.out.on hb (by have z0 := HC0.out; have z1 := HC2.out; have z2 := HC4.out; have z3 := HC6.out; have z4 := HC8.out; have z5 := HC10.out; have z6 := HD9.out; have z7 := HC12.out; have z8 := HC14.out; have z9 := HC16.out; omega))
  have HR1_16 := Lib.hid (HR1_14.out.on hb (by have z0 := HC0.out; have z1 := HC2.out; have z2 := HC4.out; have z3 := HC6.out; have z4 := HC8.out; have z5 := HC10.out; have z6 := HD9.out; have z7 := HC12.out; have z8 := HC14.out; have z9 := HC16.out; omega))
  have HR2_16 := Lib.hid (HR2_14.out.on hb (by have z0 := HC0.out; have z1 := HC2.out; have z2 := HC4.out; have z3 := HC6.out; have z4 := HC8.out; have z5 := HC10.out; have z6 := HD9.out; have z7 := HC12.out; have z8 := HC14.out; have z9 := HC16.out; omega))
  clear hb
  have q1_0 := HX1_16.out.at_ 0 _ rfl
  have q1_1 := HX1_16.out.at_ 1 _ rfl
  have q1_2 := HX1_16.out.at_ 2 _ rfl
  have q1_3 := HX1_16.out.at_ 3 _ rfl
  go_wp2_with fail
  refine (markG_any _ _ _ _ _ _ _ _ _ _ HR1_16.out (by have z0 := HC0.out; have z1 := HC2.out; have z2 := HC4.out; have z3 := HC6.out; have z4 := HC8.out; have z5 := HC10.out; have z6 := HD9.out; have z7 := HC12.out; have z8 := HC14.out; have z9 := HC16.out; omega) hle).mono ?_
  rintro e w17 ⟨rfl, v17, hb, hO, hF⟩
  have HB18 := Lib.hid (bthen HB16.out hb HB16.out.size)
  have HC18 := Lib.hid hb.size
  have HX0_18 := Lib.hid (HX0_16.out.next hb)
  have HX1_18 := Lib.hid (HX1_16.out.next hb)
  have HR0_18 := Lib.hid (HR0_16.out.on hb (by have z0 := HC0.out; have z1 := HC2.out; have z2 := HC4.out; have z3 := HC6.out; have z4 := HC8.out; have z5 := HC10.out; have z6 := HD9.out; have z7 := HC12.out; have z8 := HC14.out; have z9 := HC16.out; have z10 := HC18.out; omega))
  have HR1_18 := Lib.hid (HR1_16.out.on hb (by have z0 := HC0.out; have z1 := HC2.out; have z2 := HC4.out; have z3 := HC6.out; have z4 := HC8.out; have z5 := HC10.out; have z6 := HD9.out; have z7 := HC12.out; have z8 := HC14.out; have z9 := HC16.out; have z10 := HC18.out; omega))
  have HR2_18 := Lib.hid (HR2_16.out.on hb (by have z0 := HC0.out; have z1 := HC2.out; have z2 := HC4.out; have z3 := HC6.out; have z4 := HC8.out; have z5 := HC10.out; have z6 := HD9.out; have z7 := HC12.out; have z8 := HC14.out; have z9 := HC16.out; have z10 := HC18.out; omega))
  clear hb
  have HB19 := Lib.hid (HB18.out.trans (hF.below (by have z0 := HC0.out; have z1 := HC2.out; have z2 := HC4.out; have z3 := HC6.out; have z4 := HC8.out; have z5 := HC10.out; have z6 := HD9.out; have z7 := HC12.out; have z8 := HC14.out; have z9 := HC16.out; have z10 := HC18.out; omega) HB18.out.size))
  have HC19 := Lib.hid (Nat.le_of_eq hF.size.symm)
  have HX0_19 := Lib.hid (HX0_18.out.farF hF (by have y := HX0_18.out.1; have z0 := HC0.out; have z1 := HC2.out; have z2 := HC4.out; have z3 := HC6.out; have z4 := HC8.out; have z5 := HC10.out; have z6 := HD9.out; have z7 := HC12.out; have z8 := HC14.out; have z9 := HC16.out; have z10 := HC18.out; have z11 := HC19.out; omega))
  have HX1_19 := Lib.hid (HX1_18.out.farF hF (by have y := HX1_18.out.1; have z0 := HC0.out; have z1 := HC2.out; have z2 := HC4.out; have z3 := HC6.out; have z4 := HC8.out; have z5 := HC10.out; have z6 := HD9.out; have z7 := HC12.out; have z8 := HC14.out; have z9 := HC16.out; have z10 := HC18.out; have z11 := HC19.out; omega))
  have HR0_19 := Lib.hid (HR0_18.out.far hF (by have z0 := HC0.out; have z1 := HC2.out; have z2 := HC4.out; have z3 := HC6.out; have z4 := HC8.out; have z5 := HC10.out; have z6 := HD9.out; have z7 := HC12.out; have z8 := HC14.out; have z9 := HC16.out; have z10 := HC18.out; have z11 := HC19.out; omega) (by have z0 := HC0.out; have z1 := HC2.out; have z2 := HC4.out; have z3 := HC6.out; have z4 := HC8.out; have z5 := HC10.out; have z6 := HD9.out; have z7 := HC12.out; have z8 := HC14.out; have z9 := HC16.out; have z10 := HC18.out; have z11 := HC19.out; omega))
  have HR2_19 := Lib.hid (HR2_18.out.far hF (by have z0 := HC0.out; have z1 := HC2.out; have z2 := HC4.out; have z3 := HC6.out; have z4 := HC8.out; have z5 := HC10.out; have z6 := HD9.out; have z7 := HC12.out; have z8 := HC14.out; have z9 := HC16.out; have z10 := HC18.out; have z11 := HC19.out; omega) (by have z0 := HC0.out; have z1 := HC2.out; have z2 := HC4.out; have z3 := HC6.out; have z4 := HC8.out; have z5 := HC10.out; have z6 := HD9.out; have z7 := HC12.out; have z8 := HC14.out; have z9 := HC16.out; have z10 := HC18.out; have z11 := HC19.out; omega))
  clear hF
  have HM17 := Lib.hid hO
  clear hO q1_0 q1_1 q1_2 q1_3
  have hk1 : 0 ≤ 2 * (l.length : Int) + 1 := by omega
  go_wp2_with fail
  refine (eqSS_b _ _ _ _ _ _ _ _ _ _ _ _ _ HR2_19.out HR0_19.out (by have z0 := HC0.out; have z1 := HC2.out; have z2 := HC4.out; have z3 := HC6.out; have z4 := HC8.out; have z5 := HC10.out; have z6 := HD9.out; have z7 := HC12.out; have z8 := HC14.out; have z9 := HC16.out; have z10 := HC18.out; have z11 := HC19.out; omega) (by have z0 := HC0.out; have z1 := HC2.out; have z2 := HC4.out; have z3 := HC6.out; have z4 := HC8.out; have z5 := HC10.out; have z6 := HD9.out; have z7 := HC12.out; have z8 := HC14.out; have z9 := HC16.out; have z10 := HC18.out; have z11 := HC19.out; omega) hres).mono ?_
  rintro e w20 ⟨rfl, hb⟩
  have HB21 := Lib.hid (bthen HB19.out hb HB19.out.size)
  have HC21 := Lib.hid hb.size
  have HX0_21 := Lib.hid (HX0_19.out.next hb)
  have HX1_21 := Lib.hid (HX1_19.out.next hb)
  have HR0_21 := Lib.hid (HR0_19.out.on hb (by have z0 := HC0.out; have z1 := HC2.out; have z2 := HC4.out; have z3 := HC6.out; have z4 := HC8.out; have z5 := HC10.out; have z6 := HD9.out; have z7 := HC12.out; have z8 := HC14.out; have z9 := HC16.out; have z10 := HC18.out; have z11 := HC19.out; have z12 := HC21.out; omega))
  have HR1_21 := Lib.hid (HM17.out.on hb (by have z0 := HC0.out; have z1 := HC2.out; have z2 := HC4.out; have z3 := HC6.out; have z4 := HC8.out; have z5 := HC10.out; have z6 := HD9.out; have z7 := HC12.out; have z8 := HC14.out; have z9 := HC16.out; have z10 := HC18.out; have z11 := HC19.out; have z12 := HC21.out; omega))
  have HR2_21 := Lib.hid (HR2_19.out.on hb (by have z0 := HC0.out; have z1 := HC2.out; have z2 := HC4.out; have z3 := HC6.out; have z4 := HC8.out; have z5 := HC10.out; have z6 := HD9.out; have z7 := HC12.out; have z8 := HC14.out; have z9 := HC16.out; have z10 := HC18.out; have z11 := HC19.out; have z12 := HC21.out; omega))
  clear hb
  clear hk1
  go_wp2_with fail
  refine (markSS_any _ _ _ _ _ _ _ _ HR2_21.out (by have z0 := HC0.out; have z1 := HC2.out; have z2 := HC4.out; have z3 := HC6.out; have z4 := HC8.out; have z5 := HC10.out; have z6 := HD9.out; have z7 := HC12.out; have z8 := HC14.out; have z9 := HC16.out; have z10 := HC18.out; have z11 := HC19.out; have z12 := HC21.out; omega) hres).mono ?_
  rintro e w22 ⟨rfl, hO, hF⟩
  have HB23 := Lib.hid (HB21.out.trans (hF.below (by have z0 := HC0.out; have z1 := HC2.out; have z2 := HC4.out; have z3 := HC6.out; have z4 := HC8.out; have z5 := HC10.out; have z6 := HD9.out; have z7 := HC12.out; have z8 := HC14.out; have z9 := HC16.out; have z10 := HC18.out; have z11 := HC19.out; have z12 := HC21.out; omega) HB21.out.size))
  have HC23 := Lib.hid (Nat.le_of_eq hF.size.symm)
  have HX0_23 := Lib.hid (HX0_21.out.farF hF (by have y := HX0_21.out.1; have z0 := HC0.out; have z1 := HC2.out; have z2 := HC4.out; have z3 := HC6.out; have z4 := HC8.out; have z5 := HC10.out; have z6 := HD9.out; have z7 := HC12.out; have z8 := HC14.out; have z9 := HC16.out; have z10 := HC18.out; have z11 := HC19.out; have z12 := HC21.out; have z13 := HC23.out; omega))
  have HX1_23 := Lib.hid (HX1_21.out.farF hF (by have y := HX1_21.out.1; have z0 := HC0.out; have z1 := HC2.out; have z2 := HC4.out; have z3 := HC6.out; have z4 := HC8.out; have z5 := HC10.out; have z6 := HD9.out; have z7 := HC12.out; have z8 := HC14.out; have z9 := HC16.out; have z10 := HC18.out; have z11 := HC19.out; have z12 := HC21.out; have z13 := HC23.out; omega))
  have HR0_23 := Lib.hid (HR0_21.out.far hF (by have z0 := HC0.out; have z1 := HC2.out; have z2 := HC4.out; have z3 := HC6.out; have z4 := HC8.out; have z5 := HC10.out; have z6 := HD9.out; have z7 := HC12.out; have z8 := HC14.out; have z9 := HC16.out; have z10 := HC18.out; have z11 := HC19.out; have z12 := HC21.out; have z13 := HC23.out; omega) (by have z0 := HC0.out; have z1 := HC2.out; have z2 := HC4.out; have z3 := HC6.out; have z4 := HC8.out; have z5 := HC10.out; have z6 := HD9.out; have z7 := HC12.out; have z8 := HC14.out; have z9 := HC16.out; have z10 := HC18.out; have z11 := HC19.out; have z12 := HC21.out; have z13 := HC23.out; omega))
  have HR1_23 := Lib.hid (HR1_21.out.far hF (by have z0 := HC0.out; have z1 := HC2.out; have z2 := HC4.out; have z3 := HC6.out; have z4 := HC8.out; have z5 := HC10.out; have z6 := HD9.out; have z7 := HC12.out; have z8 := HC14.out; have z9 := HC16.out; have z10 := HC18.out; have z11 := HC19.out; have z12 := HC21.out; have z13 := HC23.out; omega) (by have z0 := HC0.out; have z1 := HC2.out; have z2 := HC4.out; have z3 := HC6.out; have z4 := HC8.out; have z5 := HC10.out; have z6 := HD9.out; have z7 := HC12.out; have z8 := HC14.out; have z9 := HC16.out; have z10 := HC18.out; have z11 := HC19.out; have z12 := HC21.out; have z13 := HC23.out; omega))
  clear hF
  have HM22 := Lib.hid hO
  clear hO
  go_wp2_with fail
  refine (heldSS_any _ _ _ _ _ _ _ HM22.out hres).mono ?_
  rintro e w' ⟨rfl, rfl⟩
  have hk2 : 0 ≤ ((1 + 2 * (gpR id ze nm l t).length : Nat) : Int) := Int.natCast_nonneg _
  have q0_0 := HX0_23.out.at_ 0 _ rfl
  have q0_1 := HX0_23.out.at_ 1 _ rfl
  have q0_2 := HX0_23.out.at_ 2 _ rfl
  have q0_3 := HX0_23.out.at_ 3 _ rfl
  go_wp2_with fail
  refine (toGauge_any _ _ _ _ _ _ l _ (spots_at hs HB23.out) hle).mono ?_
  rintro e w25 ⟨g25, rfl, hO, hb⟩
  have HB26 := Lib.hid (bthen HB23.out hb HB23.out.size)
  have HC26 := Lib.hid hb.size
  have HX0_26 := Lib.hid (HX0_23.out.next hb)
  have HX1_26 := Lib.hid (HX1_23.out.next hb)
  have HR0_26 := Lib.hid (HR0_23.out.on hb (by have z0 := HC0.out; have z1 := HC2.out; have z2 := HC4.out; have z3 := HC6.out; have z4 := HC8.out; have z5 := HC10.out; have z6 := HD9.out; have z7 := HC12.out; have z8 := HC14.out; have z9 := HC16.out; have z10 := HC18.out; have z11 := HC19.out; have z12 := HC21.out; have z13 := HC23.out; have z14 := HC26.out; omega))
  have HR1_26 := Lib.hid (HR1_23.out.on hb (by have z0 := HC0.out; have z1 := HC2.out; have z2 := HC4.out; have z3 := HC6.out; have z4 := HC8.out; have z5 := HC10.out; have z6 := HD9.out; have z7 := HC12.out; have z8 := HC14.out; have z9 := HC16.out; have z10 := HC18.out; have z11 := HC19.out; have z12 := HC21.out; have z13 := HC23.out; have z14 := HC26.out; omega))
  have HR2_26 := Lib.hid (HM22.out.on hb (by have z0 := HC0.out; have z1 := HC2.out; have z2 := HC4.out; have z3 := HC6.out; have z4 := HC8.out; have z5 := HC10.out; have z6 := HD9.out; have z7 := HC12.out; have z8 := HC14.out; have z9 := HC16.out; have z10 := HC18.out; have z11 := HC19.out; have z12 := HC21.out; have z13 := HC23.out; have z14 := HC26.out; omega))
  clear hb
  have HO25 := Lib.hid hO
  clear hO q0_0 q0_1 q0_2 q0_3
  go_wp2_with fail
  refine (gaps_impl _ _ _ _ _ _ l _ _ (HO25.out.spots (by have z0 := HC0.out; have z1 := HC2.out; have z2 := HC4.out; have z3 := HC6.out; have z4 := HC8.out; have z5 := HC10.out; have z6 := HD9.out; have z7 := HC12.out; have z8 := HC14.out; have z9 := HC16.out; have z10 := HC18.out; have z11 := HC19.out; have z12 := HC21.out; have z13 := HC23.out; have z14 := HC26.out; omega)) hm hn).mono ?_
  rintro e w27 ⟨A27, c27, G27, rfl, hO, hb⟩
  have HB28 := Lib.hid (bthen HB26.out hb HB26.out.size)
  have HC28 := Lib.hid hb.size
  have HX0_28 := Lib.hid (HX0_26.out.next hb)
  have HX1_28 := Lib.hid (HX1_26.out.next hb)
  have HR0_28 := Lib.hid (HR0_26.out.on hb (by have z0 := HC0.out; have z1 := HC2.out; have z2 := HC4.out; have z3 := HC6.out; have z4 := HC8.out; have z5 := HC10.out; have z6 := HD9.out; have z7 := HC12.out; have z8 := HC14.out; have z9 := HC16.out; have z10 := HC18.out; have z11 := HC19.out; have z12 := HC21.out; have z13 := HC23.out; have z14 := HC26.out; have z15 := HC28.out; omega))
  have HR1_28 := Lib.hid (HR1_26.out.on hb (by have z0 := HC0.out; have z1 := HC2.out; have z2 := HC4.out; have z3 := HC6.out; have z4 := HC8.out; have z5 := HC10.out; have z6 := HD9.out; have z7 := HC12.out; have z8 := HC14.out; have z9 := HC16.out; have z10 := HC18.out; have z11 := HC19.out; have z12 := HC21.out; have z13 := HC23.out; have z14 := HC26.out; have z15 := HC28.out; omega))
  have HR2_28 := Lib.hid (HR2_26.out.on hb (by have z0 := HC0.out; have z1 := HC2.out; have z2 := HC4.out; have z3 := HC6.out; have z4 := HC8.out; have z5 := HC10.out; have z6 := HD9.out; have z7 := HC12.out; have z8 := HC14.out; have z9 := HC16.out; have z10 := HC18.out; have z11 := HC19.out; have z12 := HC21.out; have z13 := HC23.out; have z14 := HC26.out; have z15 := HC28.out; omega))
  have HR3_28 := Lib.hid (HO25.out.on hb (by have z0 := HC0.out; have z1 := HC2.out; have z2 := HC4.out; have z3 := HC6.out; have z4 := HC8.out; have z5 := HC10.out; have z6 := HD9.out; have z7 := HC12.out; have z8 := HC14.out; have z9 := HC16.out; have z10 := HC18.out; have z11 := HC19.out; have z12 := HC21.out; have z13 := HC23.out; have z14 := HC26.out; have z15 := HC28.out; omega))
  clear hb
  have HO27 := Lib.hid hO
  clear hO
  go_wp2_with fail
  refine (eqSS_b _ _ _ _ _ _ _ _ _ _ _ _ _ HO27.out HR0_28.out (by have z0 := HC0.out; have z1 := HC2.out; have z2 := HC4.out; have z3 := HC6.out; have z4 := HC8.out; have z5 := HC10.out; have z6 := HD9.out; have z7 := HC12.out; have z8 := HC14.out; have z9 := HC16.out; have z10 := HC18.out; have z11 := HC19.out; have z12 := HC21.out; have z13 := HC23.out; have z14 := HC26.out; have z15 := HC28.out; omega) (by have z0 := HC0.out; have z1 := HC2.out; have z2 := HC4.out; have z3 := HC6.out; have z4 := HC8.out; have z5 := HC10.out; have z6 := HD9.out; have z7 := HC12.out; have z8 := HC14.out; have z9 := HC16.out; have z10 := HC18.out; have z11 := HC19.out; have z12 := HC21.out; have z13 := HC23.out; have z14 := HC26.out; have z15 := HC28.out; omega) hres).mono ?_
  rintro e w29 ⟨rfl, hb⟩
  have HB30 := Lib.hid (bthen HB28.out hb HB28.out.size)
  have HC30 := Lib.hid hb.size
  have HX0_30 := Lib.hid (HX0_28.out.next hb)
  have HX1_30 := Lib.hid (HX1_28.out.next hb)
  have HR0_30 := Lib.hid (HR0_28.out.on hb (by have z0 := HC0.out; have z1 := HC2.out; have z2 := HC4.out; have z3 := HC6.out; have z4 := HC8.out; have z5 := HC10.out; have z6 := HD9.out; have z7 := HC12.out; have z8 := HC14.out; have z9 := HC16.out; have z10 := HC18.out; have z11 := HC19.out; have z12 := HC21.out; have z13 := HC23.out; have z14 := HC26.out; have z15 := HC28.out; have z16 := HC30.out; omega))
  have HR1_30 := Lib.hid (HR1_28.out.on hb (by have z0 := HC0.out; have z1 := HC2.out; have z2 := HC4.out; have z3 := HC6.out; have z4 := HC8.out; have z5 := HC10.out; have z6 := HD9.out; have z7 := HC12.out; have z8 := HC14.out; have z9 := HC16.out; have z10 := HC18.out; have z11 := HC19.out; have z12 := HC21.out; have z13 := HC23.out; have z14 := HC26.out; have z15 := HC28.out; have z16 := HC30.out; omega))
  have HR2_30 := Lib.hid (HR2_28.out.on hb (by have z0 := HC0.out; have z1 := HC2.out; have z2 := HC4.out; have z3 := HC6.out; have z4 := HC8.out; have z5 := HC10.out; have z6 := HD9.out; have z7 := HC12.out; have z8 := HC14.out; have z9 := HC16.out; have z10 := HC18.out; have z11 := HC19.out; have z12 := HC21.out; have z13 := HC23.out; have z14 := HC26.out; have z15 := HC28.out; have z16 := HC30.out; omega))
  have HR3_30 := Lib.hid (HR3_28.out.on hb (by have z0 := HC0.out; have z1 := HC2.out; have z2 := HC4.out; have z3 := HC6.out; have z4 := HC8.out; have z5 := HC10.out; have z6 := HD9.out; have z7 := HC12.out; have z8 := HC14.out; have z9 := HC16.out; have z10 := HC18.out; have z11 := HC19.out; have z12 := HC21.out; have z13 := HC23.out; have z14 := HC26.out; have z15 := HC28.out; have z16 := HC30.out; omega))
  have HR4_30 := Lib.hid (HO27.out.on hb (by have z0 := HC0.out; have z1 := HC2.out; have z2 := HC4.out; have z3 := HC6.out; have z4 := HC8.out; have z5 := HC10.out; have z6 := HD9.out; have z7 := HC12.out; have z8 := HC14.out; have z9 := HC16.out; have z10 := HC18.out; have z11 := HC19.out; have z12 := HC21.out; have z13 := HC23.out; have z14 := HC26.out; have z15 := HC28.out; have z16 := HC30.out; omega))
  clear hb
  go_wp2_with fail
  refine (heldSS_any _ _ _ _ _ _ _ HR2_30.out hres).mono ?_
  rintro e w' ⟨rfl, rfl⟩
  go_wp2_with fail
  go_ret
  exact ⟨rfl, HB30.out⟩

/-! ### The row's step. -/
set_option maxRecDepth 100000 in
theorem lifted (os : Os) (started : os.Started) (H : Type) (enc : TypeId × Value → H) :
    ReturnsInHanded {} Try.checked os 9 .any (Rows.fnExactGapsOfSpec.pre6 enc Try.prog Try.f9 Rows.fnExactGapsOfRow.domain false) (Rows.fnExactGapsOfSpec.post enc Try.prog Try.f9 false true false false) := by
  refine returnsInHanded_of_change (C := Try.checked) own started (by kernel_rfl) Try.func9
    (ChangeSpec.witness6 (enc := enc) (C := Try.checked) false ⟨#[], #[.agg #[.int .i64 0, .string ⟨#[]⟩, .int .i64 0, .slice none 0 0], .int .i64 0], []⟩ 8 (by kernel_rfl) (by kernel_rfl) (by kernel_rfl) (by kernel_rfl)) ?_
  intro W base args ds gs before hval0 hW hcnd _
  have hval : ∀ (j : Nat) t v, Try.f9.params[j]? = some t → args[j]? = some v → Value.okWide Try.prog W .any base t v := hval0
  have hW' := hW
  obtain ⟨p, q, hA0, hV, rfl, hfz, hnd⟩ := hW
  have hA : DataW.TrodAll enc Try.prog W 0 (fun _ => true) true Try.f9.params.toList args.toList ds p := hA0
  rw [Try.params9] at hA hval
  obtain ⟨v0, vs0, d0, ds0, p0, q0, hargs, rfl, rfl, h0, r0⟩ := trodAll_cons hA
  obtain ⟨v1, vs1, d1, ds1, p1, q1, rfl, rfl, rfl, h1, r1⟩ := trodAll_cons r0
  obtain ⟨rfl, rfl, rfl⟩ := trodAll_nil r1
  obtain rfl : args = #[v0, v1] := by cases args; simp_all
  obtain ⟨rfl, rfl⟩ := trodVars_none hV
  have k0 := h0
  have lt0 : ∀ x ∈ p0, x.block < W.heap.size := by obtain ⟨m, hm⟩ := k0; exact DataW.trod_lt m _ _ _ hm
  obtain ⟨id0, nm0, ze0, A0, n0, c0, rfl, z0, m0, l0, w0⟩ := open_gauge (hval 0 62 v0 rfl rfl) h0
  have k1 := h1
  have lt1 : ∀ x ∈ p1, x.block < W.heap.size := by obtain ⟨m, hm⟩ := k1; exact DataW.trod_lt m _ _ _ hm
  obtain ⟨x1, rfl⟩ := open_num (hval 1 3 v1 rfl rfl) h1
  clear hA0 hval0
  refine (walk id0 ze0 nm0 A0 n0 c0 l0 x1 W w0 m0 z0).mono fun e W1 ⟨he, bel⟩ => ?_
  subst he
  exact ⟨_, rfl, _, _, _, [], _, [], hW', trodAll_mk1 (shut_bool Try.underlying4 _), (trodAll_cons_mk (Below.trod laidOut (by kernel_rfl) (of_decide_eq_true (by kernel_rfl)) k0 bel lt0) (trodAll_cons_mk (Below.trod laidOut (by kernel_rfl) (of_decide_eq_true (by kernel_rfl)) k1 bel lt1) trodAll_mk0)), rfl, bel.frame _, fun h => by cases h⟩

/-- The statement. -/
theorem proved : Rows.FnExactGapsOfSaid :=
  OpenClaim.holds_of_wide 9 Try.f9 rfl rfl rfl rfl rfl rfl rfl ⟨rfl, rfl, rfl, rfl, rfl⟩ rfl rfl rfl rfl rfl (by kernel_rfl) Try.func9 (by kernel_rfl)
    (of_decide_eq_true (by kernel_rfl)) (by unfold Func.isWrapper; first | (rw [if_pos (by decide +kernel)]; kernel_rfl) | (rw [if_neg (by decide +kernel)]; exact ⟨rfl, rfl⟩))
    (fun os started H enc _ => lifted os started H enc)
#print axioms proved
end Go.Proofs.Ytcimpnecjlpkoaa.fnExactGapsOf
