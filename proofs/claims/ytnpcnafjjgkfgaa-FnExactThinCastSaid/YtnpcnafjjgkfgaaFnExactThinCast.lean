/-
  Proved here: for every cast the law laws.FnExactThinCast returns true (impl.ThinCast answers as spec.ThinCast and writes into no argument; its answer owns its memory), and the arguments read afterwards as before.
  Conditions: none beyond the row's own.
-/
import Derived.Test.YtnpcnafjjgkfgaaZo
import Derived.Test.YtnpcnafjjgkfgaaZg
import Derived.Test.YtnpcnafjjgkfgaaZk
namespace Go.Proofs.Ytnpcnafjjgkfgaa.fnExactThinCast
open Go.Joins Go.ChangeShapes Go.WideShapes Go.ChangeAt Go.RowKit Go.Deep
set_option linter.unusedVariables false

/-! ### The walk: the Go text returns true, and nothing that was there has turned. -/
set_option maxRecDepth 20000 in
set_option maxHeartbeats 3200000 in
theorem walk (id tm x y : Int) (A : Option Addr) (n c : Nat) (l : List (Int × Int)) (w : World) (hs : Spots w w.heap.size A n l) (hm : n ≤ maxLen) :
    Calls Try.prog 14 #[.agg #[.int .i64 id, .int .i64 tm, .int .i64 x, .int .i64 y, .slice A n c]] w fun e w' => e = .returned (.bool true) ∧ Below w.heap.size w w' := by
  have HX := Lib.hid (box1 (cs := #[.int .i64 id, .int .i64 tm, .int .i64 x, .int .i64 y, .slice A n c]) (T := 55) (Below.refl _ _) (w := w))
  by_cases h0 : (1048576 : Int) < n
  · go_enter Try.func14, Try.ntmps14
    go_wp2_with fail
    refine (szK_neg _ _ _ _ _ _ _ _ _ (by omega) (by omega) hm h0).mono ?_
    rintro e w1 ⟨rfl, hb⟩
    have HT := Lib.hid (bthen HX.out.1 hb HX.out.1.size)
    clear hb
    go_wp2_with fail
    go_ret
    exact ⟨rfl, HT.out⟩
  have hle : n ≤ 1048576 := by omega
  have hsz : 0 ≤ (1048576 : Int) - n := by omega
  obtain rfl := hs.1
  have hres : (thLs id tm x y l).length ≤ 1048576 := thLs_len id tm x y l hle
  have HSz := Lib.hid (And.intro hle hsz)
  obtain ⟨V0, hV⟩ : ∃ W, W = w.alloc (.cells #[.int .i64 id, .int .i64 tm, .int .i64 x, .int .i64 y, .slice A l.length c] 55) := ⟨_, rfl⟩
  have HN0 : Hid (Below w.heap.size w V0 ∧ Has V0 w.heap.size [.int .i64 id, .int .i64 tm, .int .i64 x, .int .i64 y, .slice A l.length c]) := by rw [hV]; exact box1 (Below.refl _ _)
  have HB0 := Lib.hid HN0.out.1
  have HX0 := Lib.hid HN0.out.2
  have HC0 := Lib.hid HN0.out.2.1
  have HE0 := Lib.hid hV
  clear hV h0 HX
  go_enter Try.func14, Try.ntmps14
  go_wp2_with fail
  rw [← HE0.out]
  refine (szK_pos _ _ _ _ _ _ _ _ _ (by omega) (by omega)).mono ?_
  rintro e w1 ⟨rfl, hb⟩
  have HB2 := Lib.hid (bthen HB0.out hb HB0.out.size)
  have HC2 := Lib.hid hb.size
  have HX0_2 := Lib.hid (HX0.out.next hb)
  clear hb
  have q0_0 := HX0_2.out.at_ 0 _ rfl
  have q0_1 := HX0_2.out.at_ 1 _ rfl
  have q0_2 := HX0_2.out.at_ 2 _ rfl
  have q0_3 := HX0_2.out.at_ 3 _ rfl
  have q0_4 := HX0_2.out.at_ 4 _ rfl
  go_wp2_with fail
  refine (toCast_any _ _ _ _ _ _ _ l _ (spots_at hs HB2.out) hle).mono ?_
  rintro e w3 ⟨g3, rfl, hO, hb⟩
  have HB4 := Lib.hid (bthen HB2.out hb HB2.out.size)
  have HC4 := Lib.hid hb.size
  have HX0_4 := Lib.hid (HX0_2.out.next hb)
  clear hb
  have HO3 := Lib.hid hO
  clear hO q0_0 q0_1 q0_2 q0_3 q0_4
  go_wp2_with fail
  refine (thin_spec _ _ _ _ _ _ _ l _ (HO3.out.spots (by have z0 := HC0.out; have z1 := HC2.out; have z2 := HC4.out; omega)) hm).mono ?_
  rintro e w5 ⟨A5, c5, rfl, hO, hb, _⟩
  have HB6 := Lib.hid (bthen HB4.out hb HB4.out.size)
  have HC6 := Lib.hid hb.size
  have HX0_6 := Lib.hid (HX0_4.out.next hb)
  have HR0_6 := Lib.hid (HO3.out.on hb (by have z0 := HC0.out; have z1 := HC2.out; have z2 := HC4.out; have z3 := HC6.out; omega))
  clear hb
  have HO5 := Lib.hid hO
  clear hO
  have q0_0 := (HX0_6.out.alloc (.cells #[.int .i64 (thId id tm x y l), .int .i64 (thTm id tm x y l), .int .i64 (thX id tm x y l), .int .i64 (thY id tm x y l), .slice A5 (thLs id tm x y l).length c5] 28)).at_ 0 _ rfl
  have q0_1 := (HX0_6.out.alloc (.cells #[.int .i64 (thId id tm x y l), .int .i64 (thTm id tm x y l), .int .i64 (thX id tm x y l), .int .i64 (thY id tm x y l), .slice A5 (thLs id tm x y l).length c5] 28)).at_ 1 _ rfl
  have q0_2 := (HX0_6.out.alloc (.cells #[.int .i64 (thId id tm x y l), .int .i64 (thTm id tm x y l), .int .i64 (thX id tm x y l), .int .i64 (thY id tm x y l), .slice A5 (thLs id tm x y l).length c5] 28)).at_ 2 _ rfl
  have q0_3 := (HX0_6.out.alloc (.cells #[.int .i64 (thId id tm x y l), .int .i64 (thTm id tm x y l), .int .i64 (thX id tm x y l), .int .i64 (thY id tm x y l), .slice A5 (thLs id tm x y l).length c5] 28)).at_ 3 _ rfl
  have q0_4 := (HX0_6.out.alloc (.cells #[.int .i64 (thId id tm x y l), .int .i64 (thTm id tm x y l), .int .i64 (thX id tm x y l), .int .i64 (thY id tm x y l), .slice A5 (thLs id tm x y l).length c5] 28)).at_ 4 _ rfl
  obtain ⟨V7, hV⟩ : ∃ W, W = w5.alloc (.cells #[.int .i64 (thId id tm x y l), .int .i64 (thTm id tm x y l), .int .i64 (thX id tm x y l), .int .i64 (thY id tm x y l), .slice A5 (thLs id tm x y l).length c5] 28) := ⟨_, rfl⟩
  have HN7 : Hid (Below w5.heap.size w5 V7 ∧ Has V7 w5.heap.size [.int .i64 (thId id tm x y l), .int .i64 (thTm id tm x y l), .int .i64 (thX id tm x y l), .int .i64 (thY id tm x y l), .slice A5 (thLs id tm x y l).length c5]) := by rw [hV]; exact box1 (Below.refl _ _)
  have hb := HN7.out.1
  have HB8 := Lib.hid (bthen HB6.out hb HB6.out.size)
  have HC8 := Lib.hid hb.size
  have HX0_8 := Lib.hid (HX0_6.out.next hb)
  have HR0_8 := Lib.hid (HO5.out.on hb (by have z0 := HC0.out; have z1 := HC2.out; have z2 := HC4.out; have z3 := HC6.out; have z4 := HC8.out; omega))
  clear hb
  have HD7 := Lib.hid HN7.out.2.1
  have HNx7 := Lib.hid HN7.out.2
  have HE7 := Lib.hid hV
  clear hV
  go_wp2_with fail
  rw [← HE7.out]
  clear q0_0 q0_1 q0_2 q0_3 q0_4
  refine (toCast_any _ _ _ _ _ _ _ l _ (spots_at hs HB8.out) hle).mono ?_
  rintro e w9 ⟨g9, rfl, hO, hb⟩
  have HB10 := Lib.hid (bthen HB8.out hb HB8.out.size)
  have HC10 := Lib.hid hb.size
  have HX0_10 := Lib.hid (HX0_8.out.next hb)
  have HX1_10 := Lib.hid (HNx7.out.next hb)
  have HR0_10 := Lib.hid (HR0_8.out.on hb (by have z0 := HC0.out; have z1 := HC2.out; have z2 := HC4.out; have z3 := HC6.out; have z4 := HC8.out; have z5 := HD7.out; have z6 := HC10.out; omega))
  clear hb
  have HO9 := Lib.hid hO
  clear hO 
  obtain ⟨V11, hV⟩ : ∃ W, W = w9.alloc (.cells #[.int .i64 id, .int .i64 tm, .int .i64 x, .int .i64 y, .slice (some ⟨g9, 0, none⟩) l.length l.length] 28) := ⟨_, rfl⟩
  have HN11 : Hid (Below w9.heap.size w9 V11 ∧ Has V11 w9.heap.size [.int .i64 id, .int .i64 tm, .int .i64 x, .int .i64 y, .slice (some ⟨g9, 0, none⟩) l.length l.length]) := by rw [hV]; exact box1 (Below.refl _ _)
  have hb := HN11.out.1
  have HB12 := Lib.hid (bthen HB10.out hb HB10.out.size)
  have HC12 := Lib.hid hb.size
  have HX0_12 := Lib.hid (HX0_10.out.next hb)
  have HX1_12 := Lib.hid (HX1_10.out.next hb)
  have HR0_12 := Lib.hid (HR0_10.out.on hb (by have z0 := HC0.out; have z1 := HC2.out; have z2 := HC4.out; have z3 := HC6.out; have z4 := HC8.out; have z5 := HD7.out; have z6 := HC10.out; have z7 := HC12.out; omega))
  have HR1_12 := Lib.hid (HO9.out.on hb (by have z0 := HC0.out; have z1 := HC2.out; have z2 := HC4.out; have z3 := HC6.out; have z4 := HC8.out; have z5 := HD7.out; have z6 := HC10.out; have z7 := HC12.out; omega))
  clear hb
  have HD11 := Lib.hid HN11.out.2.1
  have HNx11 := Lib.hid HN11.out.2
  have HE11 := Lib.hid hV
  clear hV
  have q2_0 := HNx11.out.at_ 0 _ rfl
  have q2_1 := HNx11.out.at_ 1 _ rfl
  have q2_2 := HNx11.out.at_ 2 _ rfl
  have q2_3 := HNx11.out.at_ 3 _ rfl
  have q2_4 := HNx11.out.at_ 4 _ rfl
  go_wp2_with fail
  try rw [← HE11.out]
  refine (thin_impl _ _ _ _ _ _ _ l _ (HR1_12.out.spots (by have z0 := HC0.out; have z1 := HC2.out; have z2 := HC4.out; have z3 := HC6.out; have z4 := HC8.out; have z5 := HD7.out; have z6 := HC10.out; have z7 := HC12.out; have z8 := HD11.out; omega)) hm).mono ?_
  rintro e w13 ⟨A13, c13, rfl, hO, hb, _⟩
  have HB14 := Lib.hid (bthen HB12.out hb HB12.out.size)
  have HC14 := Lib.hid hb.size
  have HX0_14 := Lib.hid (HX0_12.out.next hb)
  have HX1_14 := Lib.hid (HX1_12.out.next hb)
  have HX2_14 := Lib.hid (HNx11.out.next hb)
  have HR0_14 := Lib.hid (HR0_12.out.on hb (by have z0 := HC0.out; have z1 := HC2.out; have z2 := HC4.out; have z3 := HC6.out; have z4 := HC8.out; have z5 := HD7.out; have z6 := HC10.out; have z7 := HC12.out; have z8 := HD11.out; have z9 := HC14.out; omega))
  have HR1_14 := Lib.hid (HR1_12.out.on hb (by have z0 := HC0.out; have z1 := HC2.out; have z2 := HC4.out; have z3 := HC6.out; have z4 := HC8.out; have z5 := HD7.out; have z6 := HC10.out; have z7 := HC12.out; have z8 := HD11.out; have z9 := HC14.out; omega))
  clear hb
  have HO13 := Lib.hid hO
  clear hO
  clear q2_0 q2_1 q2_2 q2_3 q2_4
  have q1_0 := (HX1_14.out.alloc (.cells #[.int .i64 (thId id tm x y l), .int .i64 (thTm id tm x y l), .int .i64 (thX id tm x y l), .int .i64 (thY id tm x y l), .slice A13 (thLs id tm x y l).length c13] 28)).at_ 0 _ rfl
  have q1_1 := (HX1_14.out.alloc (.cells #[.int .i64 (thId id tm x y l), .int .i64 (thTm id tm x y l), .int .i64 (thX id tm x y l), .int .i64 (thY id tm x y l), .slice A13 (thLs id tm x y l).length c13] 28)).at_ 1 _ rfl
  have q1_2 := (HX1_14.out.alloc (.cells #[.int .i64 (thId id tm x y l), .int .i64 (thTm id tm x y l), .int .i64 (thX id tm x y l), .int .i64 (thY id tm x y l), .slice A13 (thLs id tm x y l).length c13] 28)).at_ 2 _ rfl
  have q1_3 := (HX1_14.out.alloc (.cells #[.int .i64 (thId id tm x y l), .int .i64 (thTm id tm x y l), .int .i64 (thX id tm x y l), .int .i64 (thY id tm x y l), .slice A13 (thLs id tm x y l).length c13] 28)).at_ 3 _ rfl
  have q1_4 := (HX1_14.out.alloc (.cells #[.int .i64 (thId id tm x y l), .int .i64 (thTm id tm x y l), .int .i64 (thX id tm x y l), .int .i64 (thY id tm x y l), .slice A13 (thLs id tm x y l).length c13] 28)).at_ 4 _ rfl
  obtain ⟨V15, hV⟩ : ∃ W, W = w13.alloc (.cells #[.int .i64 (thId id tm x y l), .int .i64 (thTm id tm x y l), .int .i64 (thX id tm x y l), .int .i64 (thY id tm x y l), .slice A13 (thLs id tm x y l).length c13] 28) := ⟨_, rfl⟩
  have HN15 : Hid (Below w13.heap.size w13 V15 ∧ Has V15 w13.heap.size [.int .i64 (thId id tm x y l), .int .i64 (thTm id tm x y l), .int .i64 (thX id tm x y l), .int .i64 (thY id tm x y l), .slice A13 (thLs id tm x y l).length c13]) := by rw [hV]; exact box1 (Below.refl _ _)
  have hb := HN15.out.1
  have HB16 := Lib.hid (bthen HB14.out hb HB14.out.size)
  have HC16 := Lib.hid hb.size
  have HX0_16 := Lib.hid (HX0_14.out.next hb)
  have HX1_16 := Lib.hid (HX1_14.out.next hb)
  have HX2_16 := Lib.hid (HX2_14.out.next hb)
  have HR0_16 := Lib.hid (HR0_14.out.on hb (by have z0 := HC0.out; have z1 := HC2.out; have z2 := HC4.out; have z3 := HC6.out; have z4 := HC8.out; have z5 := HD7.out; have z6 := HC10.out; have z7 := HC12.out; have z8 := HD11.out; have z9 := HC14.out; have z10 := HC16.out; omega))
  have HR1_16 := Lib.hid (HR1_14.out.on hb (by have z0 := HC0.out; have z1 := HC2.out; have z2 := HC4.out; have z3 := HC6.out; have z4 := HC8.out; have z5 := HD7.out; have z6 := HC10.out; have z7 := HC12.out; have z8 := HD11.out; have z9 := HC14.out; have z10 := HC16.out; omega))
  have HR2_16 := Lib.hid (HO13.out.on hb (by have z0 := HC0.out; have z1 := HC2.out; have z2 := HC4.out; have z3 := HC6.out; have z4 := HC8.out; have z5 := HD7.out; have z6 := HC10.out; have z7 := HC12.out; have z8 := HD11.out; have z9 := HC14.out; have z10 := HC16.out; omega))
  clear hb
  have HD15 := Lib.hid HN15.out.2.1
  have HNx15 := Lib.hid HN15.out.2
  have HE15 := Lib.hid hV
  clear hV
  go_wp2_with fail
  rw [← HE15.out]
  clear q1_0 q1_1 q1_2 q1_3 q1_4
  refine (eqK_same _ _ _ _ _ _ _ _ _ _ _ (HR2_16.out.spots (by have z0 := HC0.out; have z1 := HC2.out; have z2 := HC4.out; have z3 := HC6.out; have z4 := HC8.out; have z5 := HD7.out; have z6 := HC10.out; have z7 := HC12.out; have z8 := HD11.out; have z9 := HC14.out; have z10 := HC16.out; have z11 := HD15.out; omega)) (HR0_16.out.spots (by have z0 := HC0.out; have z1 := HC2.out; have z2 := HC4.out; have z3 := HC6.out; have z4 := HC8.out; have z5 := HD7.out; have z6 := HC10.out; have z7 := HC12.out; have z8 := HD11.out; have z9 := HC14.out; have z10 := HC16.out; have z11 := HD15.out; omega)) (by unfold maxLen; omega)).mono ?_
  rintro e w17 ⟨rfl, hb⟩
  have HB18 := Lib.hid (bthen HB16.out hb HB16.out.size)
  have HC18 := Lib.hid hb.size
  have HX0_18 := Lib.hid (HX0_16.out.next hb)
  have HX1_18 := Lib.hid (HX1_16.out.next hb)
  have HX2_18 := Lib.hid (HX2_16.out.next hb)
  have HX3_18 := Lib.hid (HNx15.out.next hb)
  have HR0_18 := Lib.hid (HR0_16.out.on hb (by have z0 := HC0.out; have z1 := HC2.out; have z2 := HC4.out; have z3 := HC6.out; have z4 := HC8.out; have z5 := HD7.out; have z6 := HC10.out; have z7 := HC12.out; have z8 := HD11.out; have z9 := HC14.out; have z10 := HC16.out; have z11 := HD15.out; have z12 := HC18.out; omega))
  have HR1_18 := Lib.hid (HR1_16.out.on hb (by have z0 := HC0.out; have z1 := HC2.out; have z2 := HC4.out; have z3 := HC6.out; have z4 := HC8.out; have z5 := HD7.out; have z6 := HC10.out; have z7 := HC12.out; have z8 := HD11.out; have z9 := HC14.out; have z10 := HC16.out; have z11 := HD15.out; have z12 := HC18.out; omega))
  have HR2_18 := Lib.hid (HR2_16.out.on hb (by have z0 := HC0.out; have z1 := HC2.out; have z2 := HC4.out; have z3 := HC6.out; have z4 := HC8.out; have z5 := HD7.out; have z6 := HC10.out; have z7 := HC12.out; have z8 := HD11.out; have z9 := HC14.out; have z10 := HC16.out; have z11 := HD15.out; have z12 := HC18.out; omega))
  clear hb
  have q0_0 := HX0_18.out.at_ 0 _ rfl
  have q0_1 := HX0_18.out.at_ 1 _ rfl
  have q0_2 := HX0_18.out.at_ 2 _ rfl
  have q0_3 := HX0_18.out.at_ 3 _ rfl
  have q0_4 := HX0_18.out.at_ 4 _ rfl
  have q2_0 := HX2_18.out.at_ 0 _ rfl
  have q2_1 := HX2_18.out.at_ 1 _ rfl
  have q2_2 := HX2_18.out.at_ 2 _ rfl
  have q2_3 := HX2_18.out.at_ 3 _ rfl
  have q2_4 := HX2_18.out.at_ 4 _ rfl
  go_wp2_with fail
  have HK : Hid ((∀ W : World, Below w17.heap.size w17 W → W.cell? ⟨w.heap.size, 0, none⟩ = some (.int .i64 id) ∧ W.cell? ⟨w.heap.size, 1, none⟩ = some (.int .i64 tm) ∧ W.cell? ⟨w.heap.size, 2, none⟩ = some (.int .i64 x) ∧ W.cell? ⟨w.heap.size, 3, none⟩ = some (.int .i64 y) ∧ W.cell? ⟨w.heap.size, 4, none⟩ = some (.slice A l.length c) ∧ W.cell? ⟨w9.heap.size, 0, none⟩ = some (.int .i64 id) ∧ W.cell? ⟨w9.heap.size, 1, none⟩ = some (.int .i64 tm) ∧ W.cell? ⟨w9.heap.size, 2, none⟩ = some (.int .i64 x) ∧ W.cell? ⟨w9.heap.size, 3, none⟩ = some (.int .i64 y) ∧ W.cell? ⟨w9.heap.size, 4, none⟩ = some (.slice (some ⟨g9, 0, none⟩) l.length l.length) ∧ Hid (Below w17.heap.size w17 W)) ∧ (∀ W : World, (W.cell? ⟨w.heap.size, 0, none⟩ = some (.int .i64 id) ∧ W.cell? ⟨w.heap.size, 1, none⟩ = some (.int .i64 tm) ∧ W.cell? ⟨w.heap.size, 2, none⟩ = some (.int .i64 x) ∧ W.cell? ⟨w.heap.size, 3, none⟩ = some (.int .i64 y) ∧ W.cell? ⟨w.heap.size, 4, none⟩ = some (.slice A l.length c) ∧ W.cell? ⟨w9.heap.size, 0, none⟩ = some (.int .i64 id) ∧ W.cell? ⟨w9.heap.size, 1, none⟩ = some (.int .i64 tm) ∧ W.cell? ⟨w9.heap.size, 2, none⟩ = some (.int .i64 x) ∧ W.cell? ⟨w9.heap.size, 3, none⟩ = some (.int .i64 y) ∧ W.cell? ⟨w9.heap.size, 4, none⟩ = some (.slice (some ⟨g9, 0, none⟩) l.length l.length) ∧ Hid (Below w17.heap.size w17 W)) → Below w17.heap.size w17 W)) := Lib.hid ⟨fun W h => ⟨cell_next h (by assumption), cell_next h (by assumption), cell_next h (by assumption), cell_next h (by assumption), cell_next h (by assumption), cell_next h (by assumption), cell_next h (by assumption), cell_next h (by assumption), cell_next h (by assumption), cell_next h (by assumption), Lib.hid h⟩, fun W h => h.2.2.2.2.2.2.2.2.2.2.out⟩
  go_region_held3 (fun W => W.cell? ⟨w.heap.size, 0, none⟩ = some (.int .i64 id) ∧ W.cell? ⟨w.heap.size, 1, none⟩ = some (.int .i64 tm) ∧ W.cell? ⟨w.heap.size, 2, none⟩ = some (.int .i64 x) ∧ W.cell? ⟨w.heap.size, 3, none⟩ = some (.int .i64 y) ∧ W.cell? ⟨w.heap.size, 4, none⟩ = some (.slice A l.length c) ∧ W.cell? ⟨w9.heap.size, 0, none⟩ = some (.int .i64 id) ∧ W.cell? ⟨w9.heap.size, 1, none⟩ = some (.int .i64 tm) ∧ W.cell? ⟨w9.heap.size, 2, none⟩ = some (.int .i64 x) ∧ W.cell? ⟨w9.heap.size, 3, none⟩ = some (.int .i64 y) ∧ W.cell? ⟨w9.heap.size, 4, none⟩ = some (.slice (some ⟨g9, 0, none⟩) l.length l.length) ∧ Hid (Below w17.heap.size w17 W)) (first | with_reducible assumption | with_reducible exact HK.out.1 _ (Below.refl _ _).drew | with_reducible exact HK.out.1 _ (bthen (HK.out.2 _ (by assumption)) hb (HK.out.2 _ (by assumption)).size) | with_reducible exact HK.out.1 _ ((HK.out.2 _ (by assumption)).alloc (HK.out.2 _ (by assumption)).size _) | with_reducible exact HK.out.1 _ (HBw.out.alloc HBw.out.size _) | with_reducible exact HK.out.1 _ ((Below.refl _ _).alloc (Nat.le_refl _) _) | with_reducible exact HK.out.1 _ ((HK.out.2 _ (by assumption)).alloc (HK.out.2 _ (by assumption)).size _).drew | with_reducible exact HK.out.1 _ (HBw.out.alloc HBw.out.size _).drew | with_reducible exact HK.out.1 _ ((Below.refl _ _).alloc (Nat.le_refl _) _).drew) ((first | (go_at_call 46; refine (toCast_any _ _ _ _ _ _ _ l _ (spots_at hs (bthen HB18.out (HK.out.2 _ (by assumption)) HB18.out.size)) HSz.out.1).mono ?_; rintro e w19 ⟨g19, rfl, hO, hb⟩; have HO7 := Lib.hid hO; have HBB := Lib.hid (bthen (HK.out.2 _ (by assumption)) hb (HK.out.2 _ (by assumption)).size); have HR7 := Lib.hid (HR1_18.out.on HBB.out (by have z0 := HC0.out; have z1 := HC2.out; have z2 := HC4.out; have z3 := HC6.out; have z4 := HC8.out; have z5 := HD7.out; have z6 := HC10.out; have z7 := HC12.out; have z8 := HD11.out; have z9 := HC14.out; have z10 := HC16.out; have z11 := HD15.out; have z12 := HC18.out; omega)); have HZ7 := Lib.hid HBB.out.size; clear hO; dsimp only) | (go_at_call 47; refine (eqK_same _ _ _ _ _ _ _ _ _ l _ (HR7.out.spots (by have z0 := HC0.out; have z1 := HC2.out; have z2 := HC4.out; have z3 := HC6.out; have z4 := HC8.out; have z5 := HD7.out; have z6 := HC10.out; have z7 := HC12.out; have z8 := HD11.out; have z9 := HC14.out; have z10 := HC16.out; have z11 := HD15.out; have z12 := HC18.out; have z13 := HZ7.out; omega)) (HO7.out.spots (Nat.le_refl _)) hm).mono ?_; rintro e w19x ⟨rfl, hb⟩; have HBw := Lib.hid (bthen (HK.out.2 _ (by assumption)) hb (HK.out.2 _ (by assumption)).size); dsimp only)))
  have hb := HK.out.2 _ (by assumption)
  clear HK q0_0 q0_1 q0_2 q0_3 q0_4 q2_0 q2_1 q2_2 q2_3 q2_4
  skip
  have HB20 := Lib.hid (bthen HB18.out hb HB18.out.size)
  have HC20 := Lib.hid hb.size
  have HX0_20 := Lib.hid (HX0_18.out.next hb)
  have HX1_20 := Lib.hid (HX1_18.out.next hb)
  have HX2_20 := Lib.hid (HX2_18.out.next hb)
  have HX3_20 := Lib.hid (HX3_18.out.next hb)
  have HR0_20 := Lib.hid (HR0_18.out.on hb (by have z0 := HC0.out; have z1 := HC2.out; have z2 := HC4.out; have z3 := HC6.out; have z4 := HC8.out; have z5 := HD7.out; have z6 := HC10.out; have z7 := HC12.out; have z8 := HD11.out; have z9 := HC14.out; have z10 := HC16.out; have z11 := HD15.out; have z12 := HC18.out; have z13 := HC20.out; omega))
  have HR1_20 := Lib.hid (HR1_18.out.on hb (by have z0 := HC0.out; have z1 := HC2.out; have z2 := HC4.out; have z3 := HC6.out; have z4 := HC8.out; have z5 := HD7.out; have z6 := HC10.out; have z7 := HC12.out; have z8 := HD11.out; have z9 := HC14.out; have z10 := HC16.out; have z11 := HD15.out; have z12 := HC18.out; have z13 := HC20.out; omega))
  have HR2_20 := Lib.hid (HR2_18.out.on hb (by have z0 := HC0.out; have z1 := HC2.out; have z2 := HC4.out; have z3 := HC6.out; have z4 := HC8.out; have z5 := HD7.out; have z6 := HC10.out; have z7 := HC12.out; have z8 := HD11.out; have z9 := HC14.out; have z10 := HC16.out; have z11 := HD15.out; have z12 := HC18.out; have z13 := HC20.out; omega))
  clear hb
  have q2_0 := HX2_20.out.at_ 0 _ rfl
  have q2_1 := HX2_20.out.at_ 1 _ rfl
  have q2_2 := HX2_20.out.at_ 2 _ rfl
  have q2_3 := HX2_20.out.at_ 3 _ rfl
  have q2_4 := HX2_20.out.at_ 4 _ rfl
  go_wp2_with fail
  refine (markK_any _ _ _ _ _ _ _ _ _ _ _ HR1_20.out (by have z0 := HC0.out; have z1 := HC2.out; have z2 := HC4.out; have z3 := HC6.out; have z4 := HC8.out; have z5 := HD7.out; have z6 := HC10.out; have z7 := HC12.out; have z8 := HD11.out; have z9 := HC14.out; have z10 := HC16.out; have z11 := HD15.out; have z12 := HC18.out; have z13 := HC20.out; omega) hle).mono ?_
  rintro e w21 ⟨rfl, v21, hb, hO, hF⟩
  have HB22 := Lib.hid (bthen HB20.out hb HB20.out.size)
  have HC22 := Lib.hid hb.size
  have HX0_22 := Lib.hid (HX0_20.out.next hb)
  have HX1_22 := Lib.hid (HX1_20.out.next hb)
  have HX2_22 := Lib.hid (HX2_20.out.next hb)
  have HX3_22 := Lib.hid (HX3_20.out.next hb)
  have HR0_22 := Lib.hid (HR0_20.out.on hb (by have z0 := HC0.out; have z1 := HC2.out; have z2 := HC4.out; have z3 := HC6.out; have z4 := HC8.out; have z5 := HD7.out; have z6 := HC10.out; have z7 := HC12.out; have z8 := HD11.out; have z9 := HC14.out; have z10 := HC16.out; have z11 := HD15.out; have z12 := HC18.out; have z13 := HC20.out; have z14 := HC22.out; omega))
  have HR1_22 := Lib.hid (HR1_20.out.on hb (by have z0 := HC0.out; have z1 := HC2.out; have z2 := HC4.out; have z3 := HC6.out; have z4 := HC8.out; have z5 := HD7.out; have z6 := HC10.out; have z7 := HC12.out; have z8 := HD11.out; have z9 := HC14.out; have z10 := HC16.out; have z11 := HD15.out; have z12 := HC18.out; have z13 := HC20.out; have z14 := HC22.out; omega))
  have HR2_22 := Lib.hid (HR2_20.out.on hb (by have z0 := HC0.out; have z1 := HC2.out; have z2 := HC4.out; have z3 := HC6.out; have z4 := HC8.out; have z5 := HD7.out; have z6 := HC10.out; have z7 := HC12.out; have z8 := HD11.out; have z9 := HC14.out; have z10 := HC16.out; have z11 := HD15.out; have z12 := HC18.out; have z13 := HC20.out; have z14 := HC22.out; omega))
  clear hb
  have HB23 := Lib.hid (HB22.out.trans (hF.below (by have z0 := HC0.out; have z1 := HC2.out; have z2 := HC4.out; have z3 := HC6.out; have z4 := HC8.out; have z5 := HD7.out; have z6 := HC10.out; have z7 := HC12.out; have z8 := HD11.out; have z9 := HC14.out; have z10 := HC16.out; have z11 := HD15.out; have z12 := HC18.out; have z13 := HC20.out; have z14 := HC22.out; omega) HB22.out.size))
  have HC23 := Lib.hid (Nat.le_of_eq hF.size.symm)
  have HX0_23 := Lib.hid (HX0_22.out.farF hF (by have y := HX0_22.out.1; have z0 := HC0.out; have z1 := HC2.out; have z2 := HC4.out; have z3 := HC6.out; have z4 := HC8.out; have z5 := HD7.out; have z6 := HC10.out; have z7 := HC12.out; have z8 := HD11.out; have z9 := HC14.out; have z10 := HC16.out; have z11 := HD15.out; have z12 := HC18.out; have z13 := HC20.out; have z14 := HC22.out; have z15 := HC23.out; omega))
  have HX1_23 := Lib.hid (HX1_22.out.farF hF (by have y := HX1_22.out.1; have z0 := HC0.out; have z1 := HC2.out; have z2 := HC4.out; have z3 := HC6.out; have z4 := HC8.out; have z5 := HD7.out; have z6 := HC10.out; have z7 := HC12.out; have z8 := HD11.out; have z9 := HC14.out; have z10 := HC16.out; have z11 := HD15.out; have z12 := HC18.out; have z13 := HC20.out; have z14 := HC22.out; have z15 := HC23.out; omega))
  have HX2_23 := Lib.hid (HX2_22.out.farF hF (by have y := HX2_22.out.1; have z0 := HC0.out; have z1 := HC2.out; have z2 := HC4.out; have z3 := HC6.out; have z4 := HC8.out; have z5 := HD7.out; have z6 := HC10.out; have z7 := HC12.out; have z8 := HD11.out; have z9 := HC14.out; have z10 := HC16.out; have z11 := HD15.out; have z12 := HC18.out; have z13 := HC20.out; have z14 := HC22.out; have z15 := HC23.out; omega))
  have HX3_23 := Lib.hid (HX3_22.out.farF hF (by have y := HX3_22.out.1; have z0 := HC0.out; have z1 := HC2.out; have z2 := HC4.out; have z3 := HC6.out; have z4 := HC8.out; have z5 := HD7.out; have z6 := HC10.out; have z7 := HC12.out; have z8 := HD11.out; have z9 := HC14.out; have z10 := HC16.out; have z11 := HD15.out; have z12 := HC18.out; have z13 := HC20.out; have z14 := HC22.out; have z15 := HC23.out; omega))
  have HR0_23 := Lib.hid (HR0_22.out.far hF (by have z0 := HC0.out; have z1 := HC2.out; have z2 := HC4.out; have z3 := HC6.out; have z4 := HC8.out; have z5 := HD7.out; have z6 := HC10.out; have z7 := HC12.out; have z8 := HD11.out; have z9 := HC14.out; have z10 := HC16.out; have z11 := HD15.out; have z12 := HC18.out; have z13 := HC20.out; have z14 := HC22.out; have z15 := HC23.out; omega) (by have z0 := HC0.out; have z1 := HC2.out; have z2 := HC4.out; have z3 := HC6.out; have z4 := HC8.out; have z5 := HD7.out; have z6 := HC10.out; have z7 := HC12.out; have z8 := HD11.out; have z9 := HC14.out; have z10 := HC16.out; have z11 := HD15.out; have z12 := HC18.out; have z13 := HC20.out; have z14 := HC22.out; have z15 := HC23.out; omega))
  have HR2_23 := Lib.hid (HR2_22.out.far hF (by have z0 := HC0.out; have z1 := HC2.out; have z2 := HC4.out; have z3 := HC6.out; have z4 := HC8.out; have z5 := HD7.out; have z6 := HC10.out; have z7 := HC12.out; have z8 := HD11.out; have z9 := HC14.out; have z10 := HC16.out; have z11 := HD15.out; have z12 := HC18.out; have z13 := HC20.out; have z14 := HC22.out; have z15 := HC23.out; omega) (by have z0 := HC0.out; have z1 := HC2.out; have z2 := HC4.out; have z3 := HC6.out; have z4 := HC8.out; have z5 := HD7.out; have z6 := HC10.out; have z7 := HC12.out; have z8 := HD11.out; have z9 := HC14.out; have z10 := HC16.out; have z11 := HD15.out; have z12 := HC18.out; have z13 := HC20.out; have z14 := HC22.out; have z15 := HC23.out; omega))
  clear hF
  have HM21 := Lib.hid hO
  clear hO q2_0 q2_1 q2_2 q2_3 q2_4
  have hk1 : 0 ≤ 2 * (l.length : Int) + 1 := by omega
  have q1_0 := HX1_23.out.at_ 0 _ rfl
  have q1_1 := HX1_23.out.at_ 1 _ rfl
  have q1_2 := HX1_23.out.at_ 2 _ rfl
  have q1_3 := HX1_23.out.at_ 3 _ rfl
  have q1_4 := HX1_23.out.at_ 4 _ rfl
  have q3_0 := HX3_23.out.at_ 0 _ rfl
  have q3_1 := HX3_23.out.at_ 1 _ rfl
  have q3_2 := HX3_23.out.at_ 2 _ rfl
  have q3_3 := HX3_23.out.at_ 3 _ rfl
  have q3_4 := HX3_23.out.at_ 4 _ rfl
  go_wp2_with fail
  refine (eqK_same _ _ _ _ _ _ _ _ _ _ _ (HR2_23.out.spots (by have z0 := HC0.out; have z1 := HC2.out; have z2 := HC4.out; have z3 := HC6.out; have z4 := HC8.out; have z5 := HD7.out; have z6 := HC10.out; have z7 := HC12.out; have z8 := HD11.out; have z9 := HC14.out; have z10 := HC16.out; have z11 := HD15.out; have z12 := HC18.out; have z13 := HC20.out; have z14 := HC22.out; have z15 := HC23.out; omega)) (HR0_23.out.spots (by have z0 := HC0.out; have z1 := HC2.out; have z2 := HC4.out; have z3 := HC6.out; have z4 := HC8.out; have z5 := HD7.out; have z6 := HC10.out; have z7 := HC12.out; have z8 := HD11.out; have z9 := HC14.out; have z10 := HC16.out; have z11 := HD15.out; have z12 := HC18.out; have z13 := HC20.out; have z14 := HC22.out; have z15 := HC23.out; omega)) (by unfold maxLen; omega)).mono ?_
  rintro e w24 ⟨rfl, hb⟩
  have HB25 := Lib.hid (bthen HB23.out hb HB23.out.size)
  have HC25 := Lib.hid hb.size
  have HX0_25 := Lib.hid (HX0_23.out.next hb)
  have HX1_25 := Lib.hid (HX1_23.out.next hb)
  have HX2_25 := Lib.hid (HX2_23.out.next hb)
  have HX3_25 := Lib.hid (HX3_23.out.next hb)
  have HR0_25 := Lib.hid (HR0_23.out.on hb (by have z0 := HC0.out; have z1 := HC2.out; have z2 := HC4.out; have z3 := HC6.out; have z4 := HC8.out; have z5 := HD7.out; have z6 := HC10.out; have z7 := HC12.out; have z8 := HD11.out; have z9 := HC14.out; have z10 := HC16.out; have z11 := HD15.out; have z12 := HC18.out; have z13 := HC20.out; have z14 := HC22.out; have z15 := HC23.out; have z16 := HC25.out; omega))
  have HR1_25 := Lib.hid (HM21.out.on hb (by have z0 := HC0.out; have z1 := HC2.out; have z2 := HC4.out; have z3 := HC6.out; have z4 := HC8.out; have z5 := HD7.out; have z6 := HC10.out; have z7 := HC12.out; have z8 := HD11.out; have z9 := HC14.out; have z10 := HC16.out; have z11 := HD15.out; have z12 := HC18.out; have z13 := HC20.out; have z14 := HC22.out; have z15 := HC23.out; have z16 := HC25.out; omega))
  have HR2_25 := Lib.hid (HR2_23.out.on hb (by have z0 := HC0.out; have z1 := HC2.out; have z2 := HC4.out; have z3 := HC6.out; have z4 := HC8.out; have z5 := HD7.out; have z6 := HC10.out; have z7 := HC12.out; have z8 := HD11.out; have z9 := HC14.out; have z10 := HC16.out; have z11 := HD15.out; have z12 := HC18.out; have z13 := HC20.out; have z14 := HC22.out; have z15 := HC23.out; have z16 := HC25.out; omega))
  clear hb
  clear q1_0 q1_1 q1_2 q1_3 q1_4 q3_0 q3_1 q3_2 q3_3 q3_4
  clear hk1
  have q3_0 := HX3_25.out.at_ 0 _ rfl
  have q3_1 := HX3_25.out.at_ 1 _ rfl
  have q3_2 := HX3_25.out.at_ 2 _ rfl
  have q3_3 := HX3_25.out.at_ 3 _ rfl
  have q3_4 := HX3_25.out.at_ 4 _ rfl
  go_wp2_with fail
  refine (markK_any _ _ _ _ _ _ _ _ _ _ _ HR2_25.out (by have z0 := HC0.out; have z1 := HC2.out; have z2 := HC4.out; have z3 := HC6.out; have z4 := HC8.out; have z5 := HD7.out; have z6 := HC10.out; have z7 := HC12.out; have z8 := HD11.out; have z9 := HC14.out; have z10 := HC16.out; have z11 := HD15.out; have z12 := HC18.out; have z13 := HC20.out; have z14 := HC22.out; have z15 := HC23.out; have z16 := HC25.out; omega) hres).mono ?_
  rintro e w26 ⟨rfl, v26, hb, hO, hF⟩
  have HB27 := Lib.hid (bthen HB25.out hb HB25.out.size)
  have HC27 := Lib.hid hb.size
  have HX0_27 := Lib.hid (HX0_25.out.next hb)
  have HX1_27 := Lib.hid (HX1_25.out.next hb)
  have HX2_27 := Lib.hid (HX2_25.out.next hb)
  have HX3_27 := Lib.hid (HX3_25.out.next hb)
  have HR0_27 := Lib.hid (HR0_25.out.on hb (by have z0 := HC0.out; have z1 := HC2.out; have z2 := HC4.out; have z3 := HC6.out; have z4 := HC8.out; have z5 := HD7.out; have z6 := HC10.out; have z7 := HC12.out; have z8 := HD11.out; have z9 := HC14.out; have z10 := HC16.out; have z11 := HD15.out; have z12 := HC18.out; have z13 := HC20.out; have z14 := HC22.out; have z15 := HC23.out; have z16 := HC25.out; have z17 := HC27.out; omega))
  have HR1_27 := Lib.hid (HR1_25.out.on hb (by have z0 := HC0.out; have z1 := HC2.out; have z2 := HC4.out; have z3 := HC6.out; have z4 := HC8.out; have z5 := HD7.out; have z6 := HC10.out; have z7 := HC12.out; have z8 := HD11.out; have z9 := HC14.out; have z10 := HC16.out; have z11 := HD15.out; have z12 := HC18.out; have z13 := HC20.out; have z14 := HC22.out; have z15 := HC23.out; have z16 := HC25.out; have z17 := HC27.out; omega))
  have HR2_27 := Lib.hid (HR2_25.out.on hb (by have z0 := HC0.out; have z1 := HC2.out; have z2 := HC4.out; have z3 := HC6.out; have z4 := HC8.out; have z5 := HD7.out; have z6 := HC10.out; have z7 := HC12.out; have z8 := HD11.out; have z9 := HC14.out; have z10 := HC16.out; have z11 := HD15.out; have z12 := HC18.out; have z13 := HC20.out; have z14 := HC22.out; have z15 := HC23.out; have z16 := HC25.out; have z17 := HC27.out; omega))
  clear hb
  have HB28 := Lib.hid (HB27.out.trans (hF.below (by have z0 := HC0.out; have z1 := HC2.out; have z2 := HC4.out; have z3 := HC6.out; have z4 := HC8.out; have z5 := HD7.out; have z6 := HC10.out; have z7 := HC12.out; have z8 := HD11.out; have z9 := HC14.out; have z10 := HC16.out; have z11 := HD15.out; have z12 := HC18.out; have z13 := HC20.out; have z14 := HC22.out; have z15 := HC23.out; have z16 := HC25.out; have z17 := HC27.out; omega) HB27.out.size))
  have HC28 := Lib.hid (Nat.le_of_eq hF.size.symm)
  have HX0_28 := Lib.hid (HX0_27.out.farF hF (by have y := HX0_27.out.1; have z0 := HC0.out; have z1 := HC2.out; have z2 := HC4.out; have z3 := HC6.out; have z4 := HC8.out; have z5 := HD7.out; have z6 := HC10.out; have z7 := HC12.out; have z8 := HD11.out; have z9 := HC14.out; have z10 := HC16.out; have z11 := HD15.out; have z12 := HC18.out; have z13 := HC20.out; have z14 := HC22.out; have z15 := HC23.out; have z16 := HC25.out; have z17 := HC27.out; have z18 := HC28.out; omega))
  have HX1_28 := Lib.hid (HX1_27.out.farF hF (by have y := HX1_27.out.1; have z0 := HC0.out; have z1 := HC2.out; have z2 := HC4.out; have z3 := HC6.out; have z4 := HC8.out; have z5 := HD7.out; have z6 := HC10.out; have z7 := HC12.out; have z8 := HD11.out; have z9 := HC14.out; have z10 := HC16.out; have z11 := HD15.out; have z12 := HC18.out; have z13 := HC20.out; have z14 := HC22.out; have z15 := HC23.out; have z16 := HC25.out; have z17 := HC27.out; have z18 := HC28.out; omega))
  have HX2_28 := Lib.hid (HX2_27.out.farF hF (by have y := HX2_27.out.1; have z0 := HC0.out; have z1 := HC2.out; have z2 := HC4.out; have z3 := HC6.out; have z4 := HC8.out; have z5 := HD7.out; have z6 := HC10.out; have z7 := HC12.out; have z8 := HD11.out; have z9 := HC14.out; have z10 := HC16.out; have z11 := HD15.out; have z12 := HC18.out; have z13 := HC20.out; have z14 := HC22.out; have z15 := HC23.out; have z16 := HC25.out; have z17 := HC27.out; have z18 := HC28.out; omega))
  have HX3_28 := Lib.hid (HX3_27.out.farF hF (by have y := HX3_27.out.1; have z0 := HC0.out; have z1 := HC2.out; have z2 := HC4.out; have z3 := HC6.out; have z4 := HC8.out; have z5 := HD7.out; have z6 := HC10.out; have z7 := HC12.out; have z8 := HD11.out; have z9 := HC14.out; have z10 := HC16.out; have z11 := HD15.out; have z12 := HC18.out; have z13 := HC20.out; have z14 := HC22.out; have z15 := HC23.out; have z16 := HC25.out; have z17 := HC27.out; have z18 := HC28.out; omega))
  have HR0_28 := Lib.hid (HR0_27.out.far hF (by have z0 := HC0.out; have z1 := HC2.out; have z2 := HC4.out; have z3 := HC6.out; have z4 := HC8.out; have z5 := HD7.out; have z6 := HC10.out; have z7 := HC12.out; have z8 := HD11.out; have z9 := HC14.out; have z10 := HC16.out; have z11 := HD15.out; have z12 := HC18.out; have z13 := HC20.out; have z14 := HC22.out; have z15 := HC23.out; have z16 := HC25.out; have z17 := HC27.out; have z18 := HC28.out; omega) (by have z0 := HC0.out; have z1 := HC2.out; have z2 := HC4.out; have z3 := HC6.out; have z4 := HC8.out; have z5 := HD7.out; have z6 := HC10.out; have z7 := HC12.out; have z8 := HD11.out; have z9 := HC14.out; have z10 := HC16.out; have z11 := HD15.out; have z12 := HC18.out; have z13 := HC20.out; have z14 := HC22.out; have z15 := HC23.out; have z16 := HC25.out; have z17 := HC27.out; have z18 := HC28.out; omega))
  have HR1_28 := Lib.hid (HR1_27.out.far hF (by have z0 := HC0.out; have z1 := HC2.out; have z2 := HC4.out; have z3 := HC6.out; have z4 := HC8.out; have z5 := HD7.out; have z6 := HC10.out; have z7 := HC12.out; have z8 := HD11.out; have z9 := HC14.out; have z10 := HC16.out; have z11 := HD15.out; have z12 := HC18.out; have z13 := HC20.out; have z14 := HC22.out; have z15 := HC23.out; have z16 := HC25.out; have z17 := HC27.out; have z18 := HC28.out; omega) (by have z0 := HC0.out; have z1 := HC2.out; have z2 := HC4.out; have z3 := HC6.out; have z4 := HC8.out; have z5 := HD7.out; have z6 := HC10.out; have z7 := HC12.out; have z8 := HD11.out; have z9 := HC14.out; have z10 := HC16.out; have z11 := HD15.out; have z12 := HC18.out; have z13 := HC20.out; have z14 := HC22.out; have z15 := HC23.out; have z16 := HC25.out; have z17 := HC27.out; have z18 := HC28.out; omega))
  clear hF
  have HM26 := Lib.hid hO
  clear hO q3_0 q3_1 q3_2 q3_3 q3_4
  have q3_0 := HX3_28.out.at_ 0 _ rfl
  have q3_1 := HX3_28.out.at_ 1 _ rfl
  have q3_2 := HX3_28.out.at_ 2 _ rfl
  have q3_3 := HX3_28.out.at_ 3 _ rfl
  have q3_4 := HX3_28.out.at_ 4 _ rfl
  go_wp2_with fail
  refine (heldK_any _ _ _ _ _ _ _ _ _ _ HM26.out (by have z0 := HC0.out; have z1 := HC2.out; have z2 := HC4.out; have z3 := HC6.out; have z4 := HC8.out; have z5 := HD7.out; have z6 := HC10.out; have z7 := HC12.out; have z8 := HD11.out; have z9 := HC14.out; have z10 := HC16.out; have z11 := HD15.out; have z12 := HC18.out; have z13 := HC20.out; have z14 := HC22.out; have z15 := HC23.out; have z16 := HC25.out; have z17 := HC27.out; have z18 := HC28.out; omega) hres).mono ?_
  rintro e w29 ⟨rfl, hb⟩
  have HB30 := Lib.hid (bthen HB28.out hb HB28.out.size)
  have HC30 := Lib.hid hb.size
  have HX0_30 := Lib.hid (HX0_28.out.next hb)
  have HX1_30 := Lib.hid (HX1_28.out.next hb)
  have HX2_30 := Lib.hid (HX2_28.out.next hb)
  have HX3_30 := Lib.hid (HX3_28.out.next hb)
  have HR0_30 := Lib.hid (HR0_28.out.on hb (by have z0 := HC0.out; have z1 := HC2.out; have z2 := HC4.out; have z3 := HC6.out; have z4 := HC8.out; have z5 := HD7.out; have z6 := HC10.out; have z7 := HC12.out; have z8 := HD11.out; have z9 := HC14.out; have z10 := HC16.out; have z11 := HD15.out; have z12 := HC18.out; have z13 := HC20.out; have z14 := HC22.out; have z15 := HC23.out; have z16 := HC25.out; have z17 := HC27.out; have z18 := HC28.out; have z19 := HC30.out; omega))
  have HR1_30 := Lib.hid (HR1_28.out.on hb (by have z0 := HC0.out; have z1 := HC2.out; have z2 := HC4.out; have z3 := HC6.out; have z4 := HC8.out; have z5 := HD7.out; have z6 := HC10.out; have z7 := HC12.out; have z8 := HD11.out; have z9 := HC14.out; have z10 := HC16.out; have z11 := HD15.out; have z12 := HC18.out; have z13 := HC20.out; have z14 := HC22.out; have z15 := HC23.out; have z16 := HC25.out; have z17 := HC27.out; have z18 := HC28.out; have z19 := HC30.out; omega))
  have HR2_30 := Lib.hid (HM26.out.on hb (by have z0 := HC0.out; have z1 := HC2.out; have z2 := HC4.out; have z3 := HC6.out; have z4 := HC8.out; have z5 := HD7.out; have z6 := HC10.out; have z7 := HC12.out; have z8 := HD11.out; have z9 := HC14.out; have z10 := HC16.out; have z11 := HD15.out; have z12 := HC18.out; have z13 := HC20.out; have z14 := HC22.out; have z15 := HC23.out; have z16 := HC25.out; have z17 := HC27.out; have z18 := HC28.out; have z19 := HC30.out; omega))
  clear hb
  clear q3_0 q3_1 q3_2 q3_3 q3_4
  have hk2 : 0 ≤ 2 * (((thLs id tm x y l).length : Nat) : Int) + 1 := by omega
  have q0_0 := HX0_30.out.at_ 0 _ rfl
  have q0_1 := HX0_30.out.at_ 1 _ rfl
  have q0_2 := HX0_30.out.at_ 2 _ rfl
  have q0_3 := HX0_30.out.at_ 3 _ rfl
  have q0_4 := HX0_30.out.at_ 4 _ rfl
  go_wp2_with fail
  refine (toCast_any _ _ _ _ _ _ _ l _ (spots_at hs HB30.out) hle).mono ?_
  rintro e w31 ⟨g31, rfl, hO, hb⟩
  have HB32 := Lib.hid (bthen HB30.out hb HB30.out.size)
  have HC32 := Lib.hid hb.size
  have HX0_32 := Lib.hid (HX0_30.out.next hb)
  have HX1_32 := Lib.hid (HX1_30.out.next hb)
  have HX2_32 := Lib.hid (HX2_30.out.next hb)
  have HX3_32 := Lib.hid (HX3_30.out.next hb)
  have HR0_32 := Lib.hid (HR0_30.out.on hb (by have z0 := HC0.out; have z1 := HC2.out; have z2 := HC4.out; have z3 := HC6.out; have z4 := HC8.out; have z5 := HD7.out; have z6 := HC10.out; have z7 := HC12.out; have z8 := HD11.out; have z9 := HC14.out; have z10 := HC16.out; have z11 := HD15.out; have z12 := HC18.out; have z13 := HC20.out; have z14 := HC22.out; have z15 := HC23.out; have z16 := HC25.out; have z17 := HC27.out; have z18 := HC28.out; have z19 := HC30.out; have z20 := HC32.out; omega))
  have HR1_32 := Lib.hid (HR1_30.out.on hb (by have z0 := HC0.out; have z1 := HC2.out; have z2 := HC4.out; have z3 := HC6.out; have z4 := HC8.out; have z5 := HD7.out; have z6 := HC10.out; have z7 := HC12.out; have z8 := HD11.out; have z9 := HC14.out; have z10 := HC16.out; have z11 := HD15.out; have z12 := HC18.out; have z13 := HC20.out; have z14 := HC22.out; have z15 := HC23.out; have z16 := HC25.out; have z17 := HC27.out; have z18 := HC28.out; have z19 := HC30.out; have z20 := HC32.out; omega))
  have HR2_32 := Lib.hid (HR2_30.out.on hb (by have z0 := HC0.out; have z1 := HC2.out; have z2 := HC4.out; have z3 := HC6.out; have z4 := HC8.out; have z5 := HD7.out; have z6 := HC10.out; have z7 := HC12.out; have z8 := HD11.out; have z9 := HC14.out; have z10 := HC16.out; have z11 := HD15.out; have z12 := HC18.out; have z13 := HC20.out; have z14 := HC22.out; have z15 := HC23.out; have z16 := HC25.out; have z17 := HC27.out; have z18 := HC28.out; have z19 := HC30.out; have z20 := HC32.out; omega))
  clear hb
  have HO31 := Lib.hid hO
  clear hO q0_0 q0_1 q0_2 q0_3 q0_4
  go_wp2_with fail
  refine (thin_impl _ _ _ _ _ _ _ l _ (HO31.out.spots (by have z0 := HC0.out; have z1 := HC2.out; have z2 := HC4.out; have z3 := HC6.out; have z4 := HC8.out; have z5 := HD7.out; have z6 := HC10.out; have z7 := HC12.out; have z8 := HD11.out; have z9 := HC14.out; have z10 := HC16.out; have z11 := HD15.out; have z12 := HC18.out; have z13 := HC20.out; have z14 := HC22.out; have z15 := HC23.out; have z16 := HC25.out; have z17 := HC27.out; have z18 := HC28.out; have z19 := HC30.out; have z20 := HC32.out; omega)) hm).mono ?_
  rintro e w33 ⟨A33, c33, rfl, hO, hb, _⟩
  have HB34 := Lib.hid (bthen HB32.out hb HB32.out.size)
  have HC34 := Lib.hid hb.size
  have HX0_34 := Lib.hid (HX0_32.out.next hb)
  have HX1_34 := Lib.hid (HX1_32.out.next hb)
  have HX2_34 := Lib.hid (HX2_32.out.next hb)
  have HX3_34 := Lib.hid (HX3_32.out.next hb)
  have HR0_34 := Lib.hid (HR0_32.out.on hb (by have z0 := HC0.out; have z1 := HC2.out; have z2 := HC4.out; have z3 := HC6.out; have z4 := HC8.out; have z5 := HD7.out; have z6 := HC10.out; have z7 := HC12.out; have z8 := HD11.out; have z9 := HC14.out; have z10 := HC16.out; have z11 := HD15.out; have z12 := HC18.out; have z13 := HC20.out; have z14 := HC22.out; have z15 := HC23.out; have z16 := HC25.out; have z17 := HC27.out; have z18 := HC28.out; have z19 := HC30.out; have z20 := HC32.out; have z21 := HC34.out; omega))
  have HR1_34 := Lib.hid (HR1_32.out.on hb (by have z0 := HC0.out; have z1 := HC2.out; have z2 := HC4.out; have z3 := HC6.out; have z4 := HC8.out; have z5 := HD7.out; have z6 := HC10.out; have z7 := HC12.out; have z8 := HD11.out; have z9 := HC14.out; have z10 := HC16.out; have z11 := HD15.out; have z12 := HC18.out; have z13 := HC20.out; have z14 := HC22.out; have z15 := HC23.out; have z16 := HC25.out; have z17 := HC27.out; have z18 := HC28.out; have z19 := HC30.out; have z20 := HC32.out; have z21 := HC34.out; omega))
  have HR2_34 := Lib.hid (HR2_32.out.on hb (by have z0 := HC0.out; have z1 := HC2.out; have z2 := HC4.out; have z3 := HC6.out; have z4 := HC8.out; have z5 := HD7.out; have z6 := HC10.out; have z7 := HC12.out; have z8 := HD11.out; have z9 := HC14.out; have z10 := HC16.out; have z11 := HD15.out; have z12 := HC18.out; have z13 := HC20.out; have z14 := HC22.out; have z15 := HC23.out; have z16 := HC25.out; have z17 := HC27.out; have z18 := HC28.out; have z19 := HC30.out; have z20 := HC32.out; have z21 := HC34.out; omega))
  have HR3_34 := Lib.hid (HO31.out.on hb (by have z0 := HC0.out; have z1 := HC2.out; have z2 := HC4.out; have z3 := HC6.out; have z4 := HC8.out; have z5 := HD7.out; have z6 := HC10.out; have z7 := HC12.out; have z8 := HD11.out; have z9 := HC14.out; have z10 := HC16.out; have z11 := HD15.out; have z12 := HC18.out; have z13 := HC20.out; have z14 := HC22.out; have z15 := HC23.out; have z16 := HC25.out; have z17 := HC27.out; have z18 := HC28.out; have z19 := HC30.out; have z20 := HC32.out; have z21 := HC34.out; omega))
  clear hb
  have HO33 := Lib.hid hO
  clear hO
  have q1_0 := (HX1_34.out.alloc (.cells #[.int .i64 (thId id tm x y l), .int .i64 (thTm id tm x y l), .int .i64 (thX id tm x y l), .int .i64 (thY id tm x y l), .slice A33 (thLs id tm x y l).length c33] 28)).at_ 0 _ rfl
  have q1_1 := (HX1_34.out.alloc (.cells #[.int .i64 (thId id tm x y l), .int .i64 (thTm id tm x y l), .int .i64 (thX id tm x y l), .int .i64 (thY id tm x y l), .slice A33 (thLs id tm x y l).length c33] 28)).at_ 1 _ rfl
  have q1_2 := (HX1_34.out.alloc (.cells #[.int .i64 (thId id tm x y l), .int .i64 (thTm id tm x y l), .int .i64 (thX id tm x y l), .int .i64 (thY id tm x y l), .slice A33 (thLs id tm x y l).length c33] 28)).at_ 2 _ rfl
  have q1_3 := (HX1_34.out.alloc (.cells #[.int .i64 (thId id tm x y l), .int .i64 (thTm id tm x y l), .int .i64 (thX id tm x y l), .int .i64 (thY id tm x y l), .slice A33 (thLs id tm x y l).length c33] 28)).at_ 3 _ rfl
  have q1_4 := (HX1_34.out.alloc (.cells #[.int .i64 (thId id tm x y l), .int .i64 (thTm id tm x y l), .int .i64 (thX id tm x y l), .int .i64 (thY id tm x y l), .slice A33 (thLs id tm x y l).length c33] 28)).at_ 4 _ rfl
  obtain ⟨V35, hV⟩ : ∃ W, W = w33.alloc (.cells #[.int .i64 (thId id tm x y l), .int .i64 (thTm id tm x y l), .int .i64 (thX id tm x y l), .int .i64 (thY id tm x y l), .slice A33 (thLs id tm x y l).length c33] 28) := ⟨_, rfl⟩
  have HN35 : Hid (Below w33.heap.size w33 V35 ∧ Has V35 w33.heap.size [.int .i64 (thId id tm x y l), .int .i64 (thTm id tm x y l), .int .i64 (thX id tm x y l), .int .i64 (thY id tm x y l), .slice A33 (thLs id tm x y l).length c33]) := by rw [hV]; exact box1 (Below.refl _ _)
  have hb := HN35.out.1
  have HB36 := Lib.hid (bthen HB34.out hb HB34.out.size)
  have HC36 := Lib.hid hb.size
  have HX0_36 := Lib.hid (HX0_34.out.next hb)
  have HX1_36 := Lib.hid (HX1_34.out.next hb)
  have HX2_36 := Lib.hid (HX2_34.out.next hb)
  have HX3_36 := Lib.hid (HX3_34.out.next hb)
  have HR0_36 := Lib.hid (HR0_34.out.on hb (by have z0 := HC0.out; have z1 := HC2.out; have z2 := HC4.out; have z3 := HC6.out; have z4 := HC8.out; have z5 := HD7.out; have z6 := HC10.out; have z7 := HC12.out; have z8 := HD11.out; have z9 := HC14.out; have z10 := HC16.out; have z11 := HD15.out; have z12 := HC18.out; have z13 := HC20.out; have z14 := HC22.out; have z15 := HC23.out; have z16 := HC25.out; have z17 := HC27.out; have z18 := HC28.out; have z19 := HC30.out; have z20 := HC32.out; have z21 := HC34.out; have z22 := HC36.out; omega))
  have HR1_36 := Lib.hid (HR1_34.out.on hb (by have z0 := HC0.out; have z1 := HC2.out; have z2 := HC4.out; have z3 := HC6.out; have z4 := HC8.out; have z5 := HD7.out; have z6 := HC10.out; have z7 := HC12.out; have z8 := HD11.out; have z9 := HC14.out; have z10 := HC16.out; have z11 := HD15.out; have z12 := HC18.out; have z13 := HC20.out; have z14 := HC22.out; have z15 := HC23.out; have z16 := HC25.out; have z17 := HC27.out; have z18 := HC28.out; have z19 := HC30.out; have z20 := HC32.out; have z21 := HC34.out; have z22 := HC36.out; omega))
  have HR2_36 := Lib.hid (HR2_34.out.on hb (by have z0 := HC0.out; have z1 := HC2.out; have z2 := HC4.out; have z3 := HC6.out; have z4 := HC8.out; have z5 := HD7.out; have z6 := HC10.out; have z7 := HC12.out; have z8 := HD11.out; have z9 := HC14.out; have z10 := HC16.out; have z11 := HD15.out; have z12 := HC18.out; have z13 := HC20.out; have z14 := HC22.out; have z15 := HC23.out; have z16 := HC25.out; have z17 := HC27.out; have z18 := HC28.out; have z19 := HC30.out; have z20 := HC32.out; have z21 := HC34.out; have z22 := HC36.out; omega))
  have HR3_36 := Lib.hid (HR3_34.out.on hb (by have z0 := HC0.out; have z1 := HC2.out; have z2 := HC4.out; have z3 := HC6.out; have z4 := HC8.out; have z5 := HD7.out; have z6 := HC10.out; have z7 := HC12.out; have z8 := HD11.out; have z9 := HC14.out; have z10 := HC16.out; have z11 := HD15.out; have z12 := HC18.out; have z13 := HC20.out; have z14 := HC22.out; have z15 := HC23.out; have z16 := HC25.out; have z17 := HC27.out; have z18 := HC28.out; have z19 := HC30.out; have z20 := HC32.out; have z21 := HC34.out; have z22 := HC36.out; omega))
  have HR4_36 := Lib.hid (HO33.out.on hb (by have z0 := HC0.out; have z1 := HC2.out; have z2 := HC4.out; have z3 := HC6.out; have z4 := HC8.out; have z5 := HD7.out; have z6 := HC10.out; have z7 := HC12.out; have z8 := HD11.out; have z9 := HC14.out; have z10 := HC16.out; have z11 := HD15.out; have z12 := HC18.out; have z13 := HC20.out; have z14 := HC22.out; have z15 := HC23.out; have z16 := HC25.out; have z17 := HC27.out; have z18 := HC28.out; have z19 := HC30.out; have z20 := HC32.out; have z21 := HC34.out; have z22 := HC36.out; omega))
  clear hb
  have HD35 := Lib.hid HN35.out.2.1
  have HNx35 := Lib.hid HN35.out.2
  have HE35 := Lib.hid hV
  clear hV
  go_wp2_with fail
  rw [← HE35.out]
  clear q1_0 q1_1 q1_2 q1_3 q1_4
  refine (eqK_same _ _ _ _ _ _ _ _ _ _ _ (HR4_36.out.spots (by have z0 := HC0.out; have z1 := HC2.out; have z2 := HC4.out; have z3 := HC6.out; have z4 := HC8.out; have z5 := HD7.out; have z6 := HC10.out; have z7 := HC12.out; have z8 := HD11.out; have z9 := HC14.out; have z10 := HC16.out; have z11 := HD15.out; have z12 := HC18.out; have z13 := HC20.out; have z14 := HC22.out; have z15 := HC23.out; have z16 := HC25.out; have z17 := HC27.out; have z18 := HC28.out; have z19 := HC30.out; have z20 := HC32.out; have z21 := HC34.out; have z22 := HC36.out; have z23 := HD35.out; omega)) (HR0_36.out.spots (by have z0 := HC0.out; have z1 := HC2.out; have z2 := HC4.out; have z3 := HC6.out; have z4 := HC8.out; have z5 := HD7.out; have z6 := HC10.out; have z7 := HC12.out; have z8 := HD11.out; have z9 := HC14.out; have z10 := HC16.out; have z11 := HD15.out; have z12 := HC18.out; have z13 := HC20.out; have z14 := HC22.out; have z15 := HC23.out; have z16 := HC25.out; have z17 := HC27.out; have z18 := HC28.out; have z19 := HC30.out; have z20 := HC32.out; have z21 := HC34.out; have z22 := HC36.out; have z23 := HD35.out; omega)) (by unfold maxLen; omega)).mono ?_
  rintro e w37 ⟨rfl, hb⟩
  have HB38 := Lib.hid (bthen HB36.out hb HB36.out.size)
  have HC38 := Lib.hid hb.size
  have HX0_38 := Lib.hid (HX0_36.out.next hb)
  have HX1_38 := Lib.hid (HX1_36.out.next hb)
  have HX2_38 := Lib.hid (HX2_36.out.next hb)
  have HX3_38 := Lib.hid (HX3_36.out.next hb)
  have HX4_38 := Lib.hid (HNx35.out.next hb)
  have HR0_38 := Lib.hid (HR0_36.out.on hb (by have z0 := HC0.out; have z1 := HC2.out; have z2 := HC4.out; have z3 := HC6.out; have z4 := HC8.out; have z5 := HD7.out; have z6 := HC10.out; have z7 := HC12.out; have z8 := HD11.out; have z9 := HC14.out; have z10 := HC16.out; have z11 := HD15.out; have z12 := HC18.out; have z13 := HC20.out; have z14 := HC22.out; have z15 := HC23.out; have z16 := HC25.out; have z17 := HC27.out; have z18 := HC28.out; have z19 := HC30.out; have z20 := HC32.out; have z21 := HC34.out; have z22 := HC36.out; have z23 := HD35.out; have z24 := HC38.out; omega))
  have HR1_38 := Lib.hid (HR1_36.out.on hb (by have z0 := HC0.out; have z1 := HC2.out; have z2 := HC4.out; have z3 := HC6.out; have z4 := HC8.out; have z5 := HD7.out; have z6 := HC10.out; have z7 := HC12.out; have z8 := HD11.out; have z9 := HC14.out; have z10 := HC16.out; have z11 := HD15.out; have z12 := HC18.out; have z13 := HC20.out; have z14 := HC22.out; have z15 := HC23.out; have z16 := HC25.out; have z17 := HC27.out; have z18 := HC28.out; have z19 := HC30.out; have z20 := HC32.out; have z21 := HC34.out; have z22 := HC36.out; have z23 := HD35.out; have z24 := HC38.out; omega))
  have HR2_38 := Lib.hid (HR2_36.out.on hb (by have z0 := HC0.out; have z1 := HC2.out; have z2 := HC4.out; have z3 := HC6.out; have z4 := HC8.out; have z5 := HD7.out; have z6 := HC10.out; have z7 := HC12.out; have z8 := HD11.out; have z9 := HC14.out; have z10 := HC16.out; have z11 := HD15.out; have z12 := HC18.out; have z13 := HC20.out; have z14 := HC22.out; have z15 := HC23.out; have z16 := HC25.out; have z17 := HC27.out; have z18 := HC28.out; have z19 := HC30.out; have z20 := HC32.out; have z21 := HC34.out; have z22 := HC36.out; have z23 := HD35.out; have z24 := HC38.out; omega))
  have HR3_38 := Lib.hid (HR3_36.out.on hb (by have z0 := HC0.out; have z1 := HC2.out; have z2 := HC4.out; have z3 := HC6.out; have z4 := HC8.out; have z5 := HD7.out; have z6 := HC10.out; have z7 := HC12.out; have z8 := HD11.out; have z9 := HC14.out; have z10 := HC16.out; have z11 := HD15.out; have z12 := HC18.out; have z13 := HC20.out; have z14 := HC22.out; have z15 := HC23.out; have z16 := HC25.out; have z17 := HC27.out; have z18 := HC28.out; have z19 := HC30.out; have z20 := HC32.out; have z21 := HC34.out; have z22 := HC36.out; have z23 := HD35.out; have z24 := HC38.out; omega))
  have HR4_38 := Lib.hid (HR4_36.out.on hb (by have z0 := HC0.out; have z1 := HC2.out; have z2 := HC4.out; have z3 := HC6.out; have z4 := HC8.out; have z5 := HD7.out; have z6 := HC10.out; have z7 := HC12.out; have z8 := HD11.out; have z9 := HC14.out; have z10 := HC16.out; have z11 := HD15.out; have z12 := HC18.out; have z13 := HC20.out; have z14 := HC22.out; have z15 := HC23.out; have z16 := HC25.out; have z17 := HC27.out; have z18 := HC28.out; have z19 := HC30.out; have z20 := HC32.out; have z21 := HC34.out; have z22 := HC36.out; have z23 := HD35.out; have z24 := HC38.out; omega))
  clear hb
  have q3_0 := HX3_38.out.at_ 0 _ rfl
  have q3_1 := HX3_38.out.at_ 1 _ rfl
  have q3_2 := HX3_38.out.at_ 2 _ rfl
  have q3_3 := HX3_38.out.at_ 3 _ rfl
  have q3_4 := HX3_38.out.at_ 4 _ rfl
  go_wp2_with fail
  refine (heldK_any _ _ _ _ _ _ _ _ _ _ HR2_38.out (by have z0 := HC0.out; have z1 := HC2.out; have z2 := HC4.out; have z3 := HC6.out; have z4 := HC8.out; have z5 := HD7.out; have z6 := HC10.out; have z7 := HC12.out; have z8 := HD11.out; have z9 := HC14.out; have z10 := HC16.out; have z11 := HD15.out; have z12 := HC18.out; have z13 := HC20.out; have z14 := HC22.out; have z15 := HC23.out; have z16 := HC25.out; have z17 := HC27.out; have z18 := HC28.out; have z19 := HC30.out; have z20 := HC32.out; have z21 := HC34.out; have z22 := HC36.out; have z23 := HD35.out; have z24 := HC38.out; omega) hres).mono ?_
  rintro e w39 ⟨rfl, hb⟩
  have HB40 := Lib.hid (bthen HB38.out hb HB38.out.size)
  have HC40 := Lib.hid hb.size
  have HX0_40 := Lib.hid (HX0_38.out.next hb)
  have HX1_40 := Lib.hid (HX1_38.out.next hb)
  have HX2_40 := Lib.hid (HX2_38.out.next hb)
  have HX3_40 := Lib.hid (HX3_38.out.next hb)
  have HX4_40 := Lib.hid (HX4_38.out.next hb)
  have HR0_40 := Lib.hid (HR0_38.out.on hb (by have z0 := HC0.out; have z1 := HC2.out; have z2 := HC4.out; have z3 := HC6.out; have z4 := HC8.out; have z5 := HD7.out; have z6 := HC10.out; have z7 := HC12.out; have z8 := HD11.out; have z9 := HC14.out; have z10 := HC16.out; have z11 := HD15.out; have z12 := HC18.out; have z13 := HC20.out; have z14 := HC22.out; have z15 := HC23.out; have z16 := HC25.out; have z17 := HC27.out; have z18 := HC28.out; have z19 := HC30.out; have z20 := HC32.out; have z21 := HC34.out; have z22 := HC36.out; have z23 := HD35.out; have z24 := HC38.out; have z25 := HC40.out; omega))
  have HR1_40 := Lib.hid (HR1_38.out.on hb (by have z0 := HC0.out; have z1 := HC2.out; have z2 := HC4.out; have z3 := HC6.out; have z4 := HC8.out; have z5 := HD7.out; have z6 := HC10.out; have z7 := HC12.out; have z8 := HD11.out; have z9 := HC14.out; have z10 := HC16.out; have z11 := HD15.out; have z12 := HC18.out; have z13 := HC20.out; have z14 := HC22.out; have z15 := HC23.out; have z16 := HC25.out; have z17 := HC27.out; have z18 := HC28.out; have z19 := HC30.out; have z20 := HC32.out; have z21 := HC34.out; have z22 := HC36.out; have z23 := HD35.out; have z24 := HC38.out; have z25 := HC40.out; omega))
  have HR2_40 := Lib.hid (HR2_38.out.on hb (by have z0 := HC0.out; have z1 := HC2.out; have z2 := HC4.out; have z3 := HC6.out; have z4 := HC8.out; have z5 := HD7.out; have z6 := HC10.out; have z7 := HC12.out; have z8 := HD11.out; have z9 := HC14.out; have z10 := HC16.out; have z11 := HD15.out; have z12 := HC18.out; have z13 := HC20.out; have z14 := HC22.out; have z15 := HC23.out; have z16 := HC25.out; have z17 := HC27.out; have z18 := HC28.out; have z19 := HC30.out; have z20 := HC32.out; have z21 := HC34.out; have z22 := HC36.out; have z23 := HD35.out; have z24 := HC38.out; have z25 := HC40.out; omega))
  have HR3_40 := Lib.hid (HR3_38.out.on hb (by have z0 := HC0.out; have z1 := HC2.out; have z2 := HC4.out; have z3 := HC6.out; have z4 := HC8.out; have z5 := HD7.out; have z6 := HC10.out; have z7 := HC12.out; have z8 := HD11.out; have z9 := HC14.out; have z10 := HC16.out; have z11 := HD15.out; have z12 := HC18.out; have z13 := HC20.out; have z14 := HC22.out; have z15 := HC23.out; have z16 := HC25.out; have z17 := HC27.out; have z18 := HC28.out; have z19 := HC30.out; have z20 := HC32.out; have z21 := HC34.out; have z22 := HC36.out; have z23 := HD35.out; have z24 := HC38.out; have z25 := HC40.out; omega))
  have HR4_40 := Lib.hid (HR4_38.out.on hb (by have z0 := HC0.out; have z1 := HC2.out; have z2 := HC4.out; have z3 := HC6.out; have z4 := HC8.out; have z5 := HD7.out; have z6 := HC10.out; have z7 := HC12.out; have z8 := HD11.out; have z9 := HC14.out; have z10 := HC16.out; have z11 := HD15.out; have z12 := HC18.out; have z13 := HC20.out; have z14 := HC22.out; have z15 := HC23.out; have z16 := HC25.out; have z17 := HC27.out; have z18 := HC28.out; have z19 := HC30.out; have z20 := HC32.out; have z21 := HC34.out; have z22 := HC36.out; have z23 := HD35.out; have z24 := HC38.out; have z25 := HC40.out; omega))
  clear hb
  clear q3_0 q3_1 q3_2 q3_3 q3_4
  go_wp2_with fail
  go_ret
  exact ⟨rfl, HB40.out⟩

/-! ### The row's step. -/
set_option maxRecDepth 100000 in
theorem lifted (os : Os) (started : os.Started) (H : Type) (enc : TypeId × Value → H) :
    ReturnsInHanded {} Try.checked os 14 .any (Rows.fnExactThinCastSpec.pre6 enc Try.prog Try.f14 Rows.fnExactThinCastRow.domain false) (Rows.fnExactThinCastSpec.post enc Try.prog Try.f14 false true false false) := by
  refine returnsInHanded_of_change (C := Try.checked) own started (by kernel_rfl) Try.func14
    (ChangeSpec.witness6 (enc := enc) (C := Try.checked) false ⟨#[], #[.agg #[.int .i64 0, .int .i64 0, .int .i64 0, .int .i64 0, .slice none 0 0]], []⟩ 8 (by kernel_rfl) (by kernel_rfl) (by kernel_rfl) (by kernel_rfl)) ?_
  intro W base args ds gs before hval0 hW hcnd _
  have hval : ∀ (j : Nat) t v, Try.f14.params[j]? = some t → args[j]? = some v → Value.okWide Try.prog W .any base t v := hval0
  have hW' := hW
  obtain ⟨p, q, hA0, hV, rfl, hfz, hnd⟩ := hW
  have hA : DataW.TrodAll enc Try.prog W 0 (fun _ => true) true Try.f14.params.toList args.toList ds p := hA0
  rw [Try.params14] at hA hval
  obtain ⟨v0, vs0, d0, ds0, p0, q0, hargs, rfl, rfl, h0, r0⟩ := trodAll_cons hA
  obtain ⟨rfl, rfl, rfl⟩ := trodAll_nil r0
  obtain rfl : args = #[v0] := by cases args; simp_all
  obtain ⟨rfl, rfl⟩ := trodVars_none hV
  have k0 := h0
  have lt0 : ∀ x ∈ p0, x.block < W.heap.size := by obtain ⟨m, hm⟩ := k0; exact DataW.trod_lt m _ _ _ hm
  obtain ⟨id0, tm0, x0, y0, A0, n0, c0, rfl, m0, l0, w0⟩ := open_cast (hval 0 55 v0 rfl rfl) h0
  clear hA0 hval0
  refine (walk id0 tm0 x0 y0 A0 n0 c0 l0 W w0 m0).mono fun e W1 ⟨he, bel⟩ => ?_
  subst he
  exact ⟨_, rfl, _, _, _, [], _, [], hW', trodAll_mk1 (shut_bool Try.underlying4 _), (trodAll_cons_mk (Below.trod laidOut (by kernel_rfl) (of_decide_eq_true (by kernel_rfl)) k0 bel lt0) trodAll_mk0), rfl, bel.frame _, fun h => by cases h⟩

/-- The statement. -/
theorem proved : Rows.FnExactThinCastSaid :=
  OpenClaim.holds_of_wide 14 Try.f14 rfl rfl rfl rfl rfl rfl rfl ⟨rfl, rfl, rfl, rfl, rfl⟩ rfl rfl rfl rfl rfl (by kernel_rfl) Try.func14 (by kernel_rfl)
    (of_decide_eq_true (by kernel_rfl)) (by unfold Func.isWrapper; first | (rw [if_pos (by decide +kernel)]; kernel_rfl) | (rw [if_neg (by decide +kernel)]; exact ⟨rfl, rfl⟩))
    (fun os started H enc _ => lifted os started H enc)
#print axioms proved
end Go.Proofs.Ytnpcnafjjgkfgaa.fnExactThinCast
