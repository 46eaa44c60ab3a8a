/-
  Contracts of spec.l1Least, spec.l1Most, spec.SharedBox, impl.SharedBox over this translation. Conditions: stated at each theorem.
-/
import Derived.Test.YtjnimedbjmihaaaBx
import Derived.Deep.RegionHeld3
import Derived.Deep.DeepCutAuto
namespace Go.Proofs.Ytjnimedbjmihaaa
open Go.RowKit

theorem least_any (a b : Int) (w : World) :
    Calls Try.prog 64 #[.int .i64 a, .int .i64 b] w fun e w' => e = .returned (.int .i64 (min a b)) ∧ w = w' := by
  by_cases h : a < b
  · have H : Hid (a = min a b) := by unfold Hid; omega
    go_enter Try.func64, Try.ntmps64
    go_wp2
    go_ret
    exact ⟨ret_int H.out, rfl⟩
  · have H : Hid (b = min a b) := by unfold Hid; omega
    go_enter Try.func64, Try.ntmps64
    go_wp2
    go_ret
    exact ⟨ret_int H.out, rfl⟩
theorem most_any (a b : Int) (w : World) :
    Calls Try.prog 65 #[.int .i64 a, .int .i64 b] w fun e w' => e = .returned (.int .i64 (max a b)) ∧ w = w' := by
  by_cases h : b < a
  · have H : Hid (a = max a b) := by unfold Hid; omega
    go_enter Try.func65, Try.ntmps65
    go_wp2
    go_ret
    exact ⟨ret_int H.out, rfl⟩
  · have H : Hid (b = max a b) := by unfold Hid; omega
    go_enter Try.func65, Try.ntmps65
    go_wp2
    go_ret
    exact ⟨ret_int H.out, rfl⟩
def shK (a b c d a' b' c' d' : Int) : Bool := boxB a b c d && boxB a' b' c' d' && boxB (max a a') (max b b') (min c c') (min d d')
/-- A value if it holds, else 0. -/
def ifK (k : Bool) (x : Int) : Int := if k = true then x else 0
theorem ifK_no {k : Bool} (h : k = false) (x : Int) : ifK k x = 0 := by unfold ifK; rw [h]; rfl
theorem ifK_yes {k : Bool} (h : k = true) (x : Int) : ifK k x = x := by unfold ifK; rw [if_pos h]
/-- A box and whether it holds. -/
def boxRes (k : Bool) (a b c d : Int) : Value := .tuple #[.agg #[.int .i64 (ifK k a), .int .i64 (ifK k b), .int .i64 (ifK k c), .int .i64 (ifK k d)], .bool k]
theorem boxRes_no {k : Bool} (h : k = false) (a b c d : Int) : Value.tuple #[.agg #[.int .i64 0, .int .i64 0, .int .i64 0, .int .i64 0], .bool false] = boxRes k a b c d := by
  unfold boxRes; rw [ifK_no h, ifK_no h, ifK_no h, ifK_no h, h]
theorem boxRes_yes {k : Bool} (h : k = true) (a b c d : Int) : Value.tuple #[.agg #[.int .i64 a, .int .i64 b, .int .i64 c, .int .i64 d], .bool true] = boxRes k a b c d := by
  unfold boxRes; rw [ifK_yes h, ifK_yes h, ifK_yes h, ifK_yes h, h]
theorem l2Box_v (a b c d : Int) (v : Bool) (h : boxB a b c d = v) (w : World) :
    Calls Try.prog 67 #[.agg #[.int .i64 a, .int .i64 b, .int .i64 c, .int .i64 d]] w fun e w' => e = .returned (.bool v) ∧ Below w.heap.size w w' := h ▸ l2Box_any a b c d w
theorem isBox_impl_v (a b c d : Int) (v : Bool) (h : boxB a b c d = v) (w : World) :
    Calls Try.prog 26 #[.agg #[.int .i64 a, .int .i64 b, .int .i64 c, .int .i64 d]] w fun e w' => e = .returned (.bool v) ∧ Below w.heap.size w w' := h ▸ isBox_impl a b c d w
def ShPost (a b c d a' b' c' d' : Int) (w : World) (e : Ending) (w' : World) : Prop :=
  e = .returned (boxRes (shK a b c d a' b' c' d') (max a a') (max b b') (min c c') (min d d')) ∧ Below w.heap.size w w'
set_option maxRecDepth 20000 in
set_option maxHeartbeats 1600000 in
theorem shared_spec (a b c d a' b' c' d' : Int) (w : World) :
    Calls Try.prog 36 #[.agg #[.int .i64 a, .int .i64 b, .int .i64 c, .int .i64 d], .agg #[.int .i64 a', .int .i64 b', .int .i64 c', .int .i64 d']] w (ShPost a b c d a' b' c' d' w) := by
  obtain ⟨W0, hW0⟩ : ∃ W0, W0 = ((w.alloc (.cells #[.int .i64 a, .int .i64 b, .int .i64 c, .int .i64 d] 35)).alloc (.cells #[.int .i64 a', .int .i64 b', .int .i64 c', .int .i64 d'] 35)).alloc (.cells #[.int .i64 0, .int .i64 0, .int .i64 0, .int .i64 0] 35) := ⟨_, rfl⟩
  have HW : Hid (Below w.heap.size w W0 ∧ Has W0 w.heap.size [.int .i64 a, .int .i64 b, .int .i64 c, .int .i64 d] ∧ Has W0 (w.heap.size + 1) [.int .i64 a', .int .i64 b', .int .i64 c', .int .i64 d'] ∧ Has W0 (w.heap.size + 1 + 1) [.int .i64 0, .int .i64 0, .int .i64 0, .int .i64 0]) := by
    have := box3 (w := w) (Below.refl (((w.alloc (.cells #[.int .i64 a, .int .i64 b, .int .i64 c, .int .i64 d] 35)).alloc (.cells #[.int .i64 a', .int .i64 b', .int .i64 c', .int .i64 d'] 35)).alloc (.cells #[.int .i64 0, .int .i64 0, .int .i64 0, .int .i64 0] 35)).heap.size _)
    rw [hW0]; exact this
  have a0 := HW.out.2.1.at_ 0 _ rfl
  have a1 := HW.out.2.1.at_ 1 _ rfl
  have a2 := HW.out.2.1.at_ 2 _ rfl
  have a3 := HW.out.2.1.at_ 3 _ rfl
  have b0 := HW.out.2.2.1.at_ 0 _ rfl
  have b1 := HW.out.2.2.1.at_ 1 _ rfl
  have b2 := HW.out.2.2.1.at_ 2 _ rfl
  have b3 := HW.out.2.2.1.at_ 3 _ rfl
  have HE := Lib.hid hW0
  clear hW0
  go_enter Try.func36, Try.ntmps36
  go_upto_region 1 with fail
  rw [← HE.out]
  go_cut [6] (fun p wx => p = .pointer (some ⟨W0.heap.size, 0, none⟩) ∧ Hid (Below W0.heap.size W0 wx ∧ Has wx W0.heap.size [.int .i64 (max a a'), .int .i64 (max b b'), .int .i64 (min c c'), .int .i64 (min d d')]))
  case first =>
    have HK : Hid ((∀ W : World, Below W0.heap.size W0 W → W.cell? ⟨w.heap.size, 0, none⟩ = some (.int .i64 a) ∧ W.cell? ⟨w.heap.size, 1, none⟩ = some (.int .i64 b) ∧ W.cell? ⟨w.heap.size, 2, none⟩ = some (.int .i64 c) ∧ W.cell? ⟨w.heap.size, 3, none⟩ = some (.int .i64 d) ∧ W.cell? ⟨w.heap.size + 1, 0, none⟩ = some (.int .i64 a') ∧ W.cell? ⟨w.heap.size + 1, 1, none⟩ = some (.int .i64 b') ∧ W.cell? ⟨w.heap.size + 1, 2, none⟩ = some (.int .i64 c') ∧ W.cell? ⟨w.heap.size + 1, 3, none⟩ = some (.int .i64 d') ∧ Hid (Below W0.heap.size W0 W)) ∧ (∀ W : World, (W.cell? ⟨w.heap.size, 0, none⟩ = some (.int .i64 a) ∧ W.cell? ⟨w.heap.size, 1, none⟩ = some (.int .i64 b) ∧ W.cell? ⟨w.heap.size, 2, none⟩ = some (.int .i64 c) ∧ W.cell? ⟨w.heap.size, 3, none⟩ = some (.int .i64 d) ∧ W.cell? ⟨w.heap.size + 1, 0, none⟩ = some (.int .i64 a') ∧ W.cell? ⟨w.heap.size + 1, 1, none⟩ = some (.int .i64 b') ∧ W.cell? ⟨w.heap.size + 1, 2, none⟩ = some (.int .i64 c') ∧ W.cell? ⟨w.heap.size + 1, 3, none⟩ = some (.int .i64 d') ∧ Hid (Below W0.heap.size W0 W)) → Below W0.heap.size W0 W)) := Lib.hid ⟨fun W h => ⟨cell_next h (by assumption), cell_next h (by assumption), cell_next h (by assumption), cell_next h (by assumption), cell_next h (by assumption), cell_next h (by assumption), cell_next h (by assumption), cell_next h (by assumption), Lib.hid h⟩, fun W h => h.2.2.2.2.2.2.2.2.out⟩
    go_region_held3 (fun W => W.cell? ⟨w.heap.size, 0, none⟩ = some (.int .i64 a) ∧ W.cell? ⟨w.heap.size, 1, none⟩ = some (.int .i64 b) ∧ W.cell? ⟨w.heap.size, 2, none⟩ = some (.int .i64 c) ∧ W.cell? ⟨w.heap.size, 3, none⟩ = some (.int .i64 d) ∧ W.cell? ⟨w.heap.size + 1, 0, none⟩ = some (.int .i64 a') ∧ W.cell? ⟨w.heap.size + 1, 1, none⟩ = some (.int .i64 b') ∧ W.cell? ⟨w.heap.size + 1, 2, none⟩ = some (.int .i64 c') ∧ W.cell? ⟨w.heap.size + 1, 3, none⟩ = some (.int .i64 d') ∧ Hid (Below W0.heap.size W0 W)) (first | with_reducible assumption | with_reducible exact HK.out.1 _ (Below.refl _ _).drew | with_reducible exact HK.out.1 _ (bthen (HK.out.2 _ (by assumption)) hb (HK.out.2 _ (by assumption)).size) | with_reducible exact HK.out.1 _ ((HK.out.2 _ (by assumption)).alloc (HK.out.2 _ (by assumption)).size _) | with_reducible exact HK.out.1 _ (HBw.out.alloc HBw.out.size _) | with_reducible exact HK.out.1 _ ((Below.refl _ _).alloc (Nat.le_refl _) _) | with_reducible exact HK.out.1 _ ((HK.out.2 _ (by assumption)).alloc (HK.out.2 _ (by assumption)).size _).drew | with_reducible exact HK.out.1 _ (HBw.out.alloc HBw.out.size _).drew | with_reducible exact HK.out.1 _ ((Below.refl _ _).alloc (Nat.le_refl _) _).drew) ((first | (go_at_call 64; refine (least_any _ _ _).mono ?_; rintro e w1 ⟨rfl, rfl⟩; dsimp only) | (go_at_call 65; refine (most_any _ _ _).mono ?_; rintro e w1 ⟨rfl, rfl⟩; dsimp only)))
    all_goals
      have hS := HK.out.2 _ (by assumption)
      go_wp2_with fail
      go_meet
      exact ⟨rfl, Lib.hid ⟨((Below.refl _ _).alloc (Nat.le_refl _) _).drew, (Has.new _ _ _).drew⟩⟩
  case rest =>
    obtain ⟨rfl, hW⟩ := hcut
    have HX := Lib.hid (And.intro (bthen HW.out.1 hW.out.1 HW.out.1.size) (And.intro (HW.out.2.1.next hW.out.1) (And.intro (HW.out.2.2.1.next hW.out.1) (And.intro (HW.out.2.2.2.next hW.out.1) hW.out.2))))
    clear a0 a1 a2 a3 b0 b1 b2 b3 hW
    rcases h1 : boxB a b c d with _ | _
    · have H1 := Lib.hid h1
      have HR := Lib.hid (boxRes_no (k := shK a b c d a' b' c' d') (by unfold shK; rw [h1]; rfl) (max a a') (max b b') (min c c') (min d d'))
      clear h1
      have c0 := HX.out.2.1.at_ 0 _ rfl
      have c1 := HX.out.2.1.at_ 1 _ rfl
      have c2 := HX.out.2.1.at_ 2 _ rfl
      have c3 := HX.out.2.1.at_ 3 _ rfl
      go_wp2_with fail
      refine (l2Box_v a b c d _ H1.out _).mono ?_
      rintro e w1 ⟨rfl, hb⟩
      have HX1 := Lib.hid (And.intro (bthen HX.out.1 hb HX.out.1.size) (And.intro (HX.out.2.1.next hb) (And.intro (HX.out.2.2.1.next hb) (And.intro (HX.out.2.2.2.1.next hb) (HX.out.2.2.2.2.next hb)))))
      clear hb c0 c1 c2 c3
      have z0 := HX1.out.2.2.2.1.at_ 0 _ rfl
      have z1 := HX1.out.2.2.2.1.at_ 1 _ rfl
      have z2 := HX1.out.2.2.2.1.at_ 2 _ rfl
      have z3 := HX1.out.2.2.2.1.at_ 3 _ rfl
      have f0 := HX1.out.2.2.2.1.free 0
      have f1 := HX1.out.2.2.2.1.free 1
      have f2 := HX1.out.2.2.2.1.free 2
      have f3 := HX1.out.2.2.2.1.free 3
      go_wp2_with fail
      refine bodyPost_ret (v := .tuple #[.agg #[.int .i64 0, .int .i64 0, .int .i64 0, .int .i64 0], .bool false]) (by simp [results, Try.results36, go_sem, z0, z1, z2, z3]) rfl ⟨congrArg Ending.returned HR.out, ?_⟩
      repeat (first | exact HX1.out.1 | refine Below.setCell ?_ (by simp; try omega) _)
    rcases h2 : boxB a' b' c' d' with _ | _
    · have H1 := Lib.hid h1
      have H2 := Lib.hid h2
      have HR := Lib.hid (boxRes_no (k := shK a b c d a' b' c' d') (by unfold shK; rw [h1, h2]; rfl) (max a a') (max b b') (min c c') (min d d'))
      clear h1 h2
      have c0 := HX.out.2.1.at_ 0 _ rfl
      have c1 := HX.out.2.1.at_ 1 _ rfl
      have c2 := HX.out.2.1.at_ 2 _ rfl
      have c3 := HX.out.2.1.at_ 3 _ rfl
      go_wp2_with fail
      refine (l2Box_v a b c d _ H1.out _).mono ?_
      rintro e w1 ⟨rfl, hb⟩
      have HX1 := Lib.hid (And.intro (bthen HX.out.1 hb HX.out.1.size) (And.intro (HX.out.2.1.next hb) (And.intro (HX.out.2.2.1.next hb) (And.intro (HX.out.2.2.2.1.next hb) (HX.out.2.2.2.2.next hb)))))
      clear hb c0 c1 c2 c3
      have c0 := HX1.out.2.2.1.at_ 0 _ rfl
      have c1 := HX1.out.2.2.1.at_ 1 _ rfl
      have c2 := HX1.out.2.2.1.at_ 2 _ rfl
      have c3 := HX1.out.2.2.1.at_ 3 _ rfl
      go_wp2_with fail
      refine (l2Box_v a' b' c' d' _ H2.out _).mono ?_
      rintro e w2 ⟨rfl, hb⟩
      have HX2 := Lib.hid (And.intro (bthen HX1.out.1 hb HX1.out.1.size) (And.intro (HX1.out.2.1.next hb) (And.intro (HX1.out.2.2.1.next hb) (And.intro (HX1.out.2.2.2.1.next hb) (HX1.out.2.2.2.2.next hb)))))
      clear hb c0 c1 c2 c3
      have z0 := HX2.out.2.2.2.1.at_ 0 _ rfl
      have z1 := HX2.out.2.2.2.1.at_ 1 _ rfl
      have z2 := HX2.out.2.2.2.1.at_ 2 _ rfl
      have z3 := HX2.out.2.2.2.1.at_ 3 _ rfl
      have f0 := HX2.out.2.2.2.1.free 0
      have f1 := HX2.out.2.2.2.1.free 1
      have f2 := HX2.out.2.2.2.1.free 2
      have f3 := HX2.out.2.2.2.1.free 3
      go_wp2_with fail
      refine bodyPost_ret (v := .tuple #[.agg #[.int .i64 0, .int .i64 0, .int .i64 0, .int .i64 0], .bool false]) (by simp [results, Try.results36, go_sem, z0, z1, z2, z3]) rfl ⟨congrArg Ending.returned HR.out, ?_⟩
      repeat (first | exact HX2.out.1 | refine Below.setCell ?_ (by simp; try omega) _)
    rcases h3 : boxB (max a a') (max b b') (min c c') (min d d') with _ | _
    · have H1 := Lib.hid h1
      have H2 := Lib.hid h2
      have H3 := Lib.hid h3
      have HR := Lib.hid (boxRes_no (k := shK a b c d a' b' c' d') (by unfold shK; rw [h1, h2, h3]; rfl) (max a a') (max b b') (min c c') (min d d'))
      clear h1 h2 h3
      have c0 := HX.out.2.1.at_ 0 _ rfl
      have c1 := HX.out.2.1.at_ 1 _ rfl
      have c2 := HX.out.2.1.at_ 2 _ rfl
      have c3 := HX.out.2.1.at_ 3 _ rfl
      go_wp2_with fail
      refine (l2Box_v a b c d _ H1.out _).mono ?_
      rintro e w1 ⟨rfl, hb⟩
      have HX1 := Lib.hid (And.intro (bthen HX.out.1 hb HX.out.1.size) (And.intro (HX.out.2.1.next hb) (And.intro (HX.out.2.2.1.next hb) (And.intro (HX.out.2.2.2.1.next hb) (HX.out.2.2.2.2.next hb)))))
      clear hb c0 c1 c2 c3
      have c0 := HX1.out.2.2.1.at_ 0 _ rfl
      have c1 := HX1.out.2.2.1.at_ 1 _ rfl
      have c2 := HX1.out.2.2.1.at_ 2 _ rfl
      have c3 := HX1.out.2.2.1.at_ 3 _ rfl
      go_wp2_with fail
      refine (l2Box_v a' b' c' d' _ H2.out _).mono ?_
      rintro e w2 ⟨rfl, hb⟩
      have HX2 := Lib.hid (And.intro (bthen HX1.out.1 hb HX1.out.1.size) (And.intro (HX1.out.2.1.next hb) (And.intro (HX1.out.2.2.1.next hb) (And.intro (HX1.out.2.2.2.1.next hb) (HX1.out.2.2.2.2.next hb)))))
      clear hb c0 c1 c2 c3
      have c0 := HX2.out.2.2.2.2.at_ 0 _ rfl
      have c1 := HX2.out.2.2.2.2.at_ 1 _ rfl
      have c2 := HX2.out.2.2.2.2.at_ 2 _ rfl
      have c3 := HX2.out.2.2.2.2.at_ 3 _ rfl
      go_wp2_with fail
      refine (l2Box_v (max a a') (max b b') (min c c') (min d d') _ H3.out _).mono ?_
      rintro e w3 ⟨rfl, hb⟩
      have HX3 := Lib.hid (And.intro (bthen HX2.out.1 hb HX2.out.1.size) (And.intro (HX2.out.2.1.next hb) (And.intro (HX2.out.2.2.1.next hb) (And.intro (HX2.out.2.2.2.1.next hb) (HX2.out.2.2.2.2.next hb)))))
      clear hb c0 c1 c2 c3
      have z0 := HX3.out.2.2.2.1.at_ 0 _ rfl
      have z1 := HX3.out.2.2.2.1.at_ 1 _ rfl
      have z2 := HX3.out.2.2.2.1.at_ 2 _ rfl
      have z3 := HX3.out.2.2.2.1.at_ 3 _ rfl
      have f0 := HX3.out.2.2.2.1.free 0
      have f1 := HX3.out.2.2.2.1.free 1
      have f2 := HX3.out.2.2.2.1.free 2
      have f3 := HX3.out.2.2.2.1.free 3
      go_wp2_with fail
      refine bodyPost_ret (v := .tuple #[.agg #[.int .i64 0, .int .i64 0, .int .i64 0, .int .i64 0], .bool false]) (by simp [results, Try.results36, go_sem, z0, z1, z2, z3]) rfl ⟨congrArg Ending.returned HR.out, ?_⟩
      repeat (first | exact HX3.out.1 | refine Below.setCell ?_ (by simp; try omega) _)
    · have H1 := Lib.hid h1
      have H2 := Lib.hid h2
      have H3 := Lib.hid h3
      have HR := Lib.hid (boxRes_yes (k := shK a b c d a' b' c' d') (by unfold shK; rw [h1, h2, h3]; rfl) (max a a') (max b b') (min c c') (min d d'))
      clear h1 h2 h3
      have c0 := HX.out.2.1.at_ 0 _ rfl
      have c1 := HX.out.2.1.at_ 1 _ rfl
      have c2 := HX.out.2.1.at_ 2 _ rfl
      have c3 := HX.out.2.1.at_ 3 _ rfl
      go_wp2_with fail
      refine (l2Box_v a b c d _ H1.out _).mono ?_
      rintro e w1 ⟨rfl, hb⟩
      have HX1 := Lib.hid (And.intro (bthen HX.out.1 hb HX.out.1.size) (And.intro (HX.out.2.1.next hb) (And.intro (HX.out.2.2.1.next hb) (And.intro (HX.out.2.2.2.1.next hb) (HX.out.2.2.2.2.next hb)))))
      clear hb c0 c1 c2 c3
      have c0 := HX1.out.2.2.1.at_ 0 _ rfl
      have c1 := HX1.out.2.2.1.at_ 1 _ rfl
      have c2 := HX1.out.2.2.1.at_ 2 _ rfl
      have c3 := HX1.out.2.2.1.at_ 3 _ rfl
      go_wp2_with fail
      refine (l2Box_v a' b' c' d' _ H2.out _).mono ?_
      rintro e w2 ⟨rfl, hb⟩
      have HX2 := Lib.hid (And.intro (bthen HX1.out.1 hb HX1.out.1.size) (And.intro (HX1.out.2.1.next hb) (And.intro (HX1.out.2.2.1.next hb) (And.intro (HX1.out.2.2.2.1.next hb) (HX1.out.2.2.2.2.next hb)))))
      clear hb c0 c1 c2 c3
      have c0 := HX2.out.2.2.2.2.at_ 0 _ rfl
      have c1 := HX2.out.2.2.2.2.at_ 1 _ rfl
      have c2 := HX2.out.2.2.2.2.at_ 2 _ rfl
      have c3 := HX2.out.2.2.2.2.at_ 3 _ rfl
      go_wp2_with fail
      refine (l2Box_v (max a a') (max b b') (min c c') (min d d') _ H3.out _).mono ?_
      rintro e w3 ⟨rfl, hb⟩
      have HX3 := Lib.hid (And.intro (bthen HX2.out.1 hb HX2.out.1.size) (And.intro (HX2.out.2.1.next hb) (And.intro (HX2.out.2.2.1.next hb) (And.intro (HX2.out.2.2.2.1.next hb) (HX2.out.2.2.2.2.next hb)))))
      clear hb c0 c1 c2 c3
      have z0 := HX3.out.2.2.2.1.at_ 0 _ rfl
      have z1 := HX3.out.2.2.2.1.at_ 1 _ rfl
      have z2 := HX3.out.2.2.2.1.at_ 2 _ rfl
      have z3 := HX3.out.2.2.2.1.at_ 3 _ rfl
      have f0 := HX3.out.2.2.2.1.free 0
      have f1 := HX3.out.2.2.2.1.free 1
      have f2 := HX3.out.2.2.2.1.free 2
      have f3 := HX3.out.2.2.2.1.free 3
      have c0 := HX3.out.2.2.2.2.at_ 0 _ rfl
      have c1 := HX3.out.2.2.2.2.at_ 1 _ rfl
      have c2 := HX3.out.2.2.2.2.at_ 2 _ rfl
      have c3 := HX3.out.2.2.2.2.at_ 3 _ rfl
      go_wp2_with fail
      refine bodyPost_ret (v := .tuple #[.agg #[.int .i64 (max a a'), .int .i64 (max b b'), .int .i64 (min c c'), .int .i64 (min d d')], .bool true]) (by simp [results, Try.results36, go_sem, z0, z1, z2, z3]) rfl ⟨congrArg Ending.returned HR.out, ?_⟩
      repeat (first | exact HX3.out.1 | refine Below.setCell ?_ (by simp; try omega) _)
end Go.Proofs.Ytjnimedbjmihaaa
