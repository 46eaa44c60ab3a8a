/-
  Proved here: for every two boxes the law laws.FnExactSharedBox returns true (impl.SharedBox answers as spec.SharedBox), and both arguments read afterwards as before.
  Conditions: none beyond the row's own.
-/
import Derived.Test.YtjnimedbjmihaaaOpen
import Derived.Test.YtjnimedbjmihaaaShi
namespace Go.Proofs.Ytjnimedbjmihaaa.fnExactSharedBox
open Go.Joins Go.ChangeShapes Go.WideShapes Go.ChangeAt Go.RowKit Go.Deep
set_option linter.unusedVariables false

/-! ### The walk: the Go text returns true, and nothing that was there has turned. -/
set_option maxRecDepth 20000 in
set_option maxHeartbeats 4000000 in
theorem walk (a b c d a' b' c' d' : Int) (w : World) :
    Calls Try.prog 11 #[.agg #[.int .i64 a, .int .i64 b, .int .i64 c, .int .i64 d], .agg #[.int .i64 a', .int .i64 b', .int .i64 c', .int .i64 d']] w fun e w' => e = .returned (.bool true) ∧ Below w.heap.size w w' := by
  obtain ⟨W0, hW0⟩ : ∃ W0, W0 = (w.alloc (.cells #[.int .i64 a, .int .i64 b, .int .i64 c, .int .i64 d] 65)).alloc (.cells #[.int .i64 a', .int .i64 b', .int .i64 c', .int .i64 d'] 65) := ⟨_, rfl⟩
  have HW : Hid (Below w.heap.size w W0 ∧ Has W0 w.heap.size [.int .i64 a, .int .i64 b, .int .i64 c, .int .i64 d] ∧ Has W0 (w.heap.size + 1) [.int .i64 a', .int .i64 b', .int .i64 c', .int .i64 d']) := by
    rw [hW0]; exact box2 (Below.refl _ _)
  have a0 := HW.out.2.1.at_ 0 _ rfl
  have a1 := HW.out.2.1.at_ 1 _ rfl
  have a2 := HW.out.2.1.at_ 2 _ rfl
  have a3 := HW.out.2.1.at_ 3 _ rfl
  have b0 := HW.out.2.2.at_ 0 _ rfl
  have b1 := HW.out.2.2.at_ 1 _ rfl
  have b2 := HW.out.2.2.at_ 2 _ rfl
  have b3 := HW.out.2.2.at_ 3 _ rfl
  have HE := Lib.hid hW0
  clear hW0
  go_enter Try.func11, Try.ntmps11
  go_upto_region 1 with fail
  rw [← HE.out]
  go_cut [5, 6] (fun p k wx => ∃ g : Nat, p = .pointer (some ⟨g, 0, none⟩) ∧ k = .bool (shK a b c d a' b' c' d') ∧ Hid (Below W0.heap.size W0 wx ∧ Has wx g [.int .i64 (ifK (shK a b c d a' b' c' d') (max a a')), .int .i64 (ifK (shK a b c d a' b' c' d') (max b b')), .int .i64 (ifK (shK a b c d a' b' c' d') (min c c')), .int .i64 (ifK (shK a b c d a' b' c' d') (min d d'))]))
  case first =>
    have HK : Hid ((∀ W : World, Below W0.heap.size W0 W → W.cell? ⟨w.heap.size, 0, none⟩ = some (.int .i64 a) ∧ W.cell? ⟨w.heap.size, 1, none⟩ = some (.int .i64 b) ∧ W.cell? ⟨w.heap.size, 2, none⟩ = some (.int .i64 c) ∧ W.cell? ⟨w.heap.size, 3, none⟩ = some (.int .i64 d) ∧ W.cell? ⟨w.heap.size + 1, 0, none⟩ = some (.int .i64 a') ∧ W.cell? ⟨w.heap.size + 1, 1, none⟩ = some (.int .i64 b') ∧ W.cell? ⟨w.heap.size + 1, 2, none⟩ = some (.int .i64 c') ∧ W.cell? ⟨w.heap.size + 1, 3, none⟩ = some (.int .i64 d') ∧ Hid (Below W0.heap.size W0 W)) ∧ (∀ W : World, (W.cell? ⟨w.heap.size, 0, none⟩ = some (.int .i64 a) ∧ W.cell? ⟨w.heap.size, 1, none⟩ = some (.int .i64 b) ∧ W.cell? ⟨w.heap.size, 2, none⟩ = some (.int .i64 c) ∧ W.cell? ⟨w.heap.size, 3, none⟩ = some (.int .i64 d) ∧ W.cell? ⟨w.heap.size + 1, 0, none⟩ = some (.int .i64 a') ∧ W.cell? ⟨w.heap.size + 1, 1, none⟩ = some (.int .i64 b') ∧ W.cell? ⟨w.heap.size + 1, 2, none⟩ = some (.int .i64 c') ∧ W.cell? ⟨w.heap.size + 1, 3, none⟩ = some (.int .i64 d') ∧ Hid (Below W0.heap.size W0 W)) → Below W0.heap.size W0 W)) := Lib.hid ⟨fun W h => ⟨cell_next h (by assumption), cell_next h (by assumption), cell_next h (by assumption), cell_next h (by assumption), cell_next h (by assumption), cell_next h (by assumption), cell_next h (by assumption), cell_next h (by assumption), Lib.hid h⟩, fun W h => h.2.2.2.2.2.2.2.2.out⟩
    go_region_held3 (fun W => W.cell? ⟨w.heap.size, 0, none⟩ = some (.int .i64 a) ∧ W.cell? ⟨w.heap.size, 1, none⟩ = some (.int .i64 b) ∧ W.cell? ⟨w.heap.size, 2, none⟩ = some (.int .i64 c) ∧ W.cell? ⟨w.heap.size, 3, none⟩ = some (.int .i64 d) ∧ W.cell? ⟨w.heap.size + 1, 0, none⟩ = some (.int .i64 a') ∧ W.cell? ⟨w.heap.size + 1, 1, none⟩ = some (.int .i64 b') ∧ W.cell? ⟨w.heap.size + 1, 2, none⟩ = some (.int .i64 c') ∧ W.cell? ⟨w.heap.size + 1, 3, none⟩ = some (.int .i64 d') ∧ Hid (Below W0.heap.size W0 W)) (first | with_reducible assumption | with_reducible exact HK.out.1 _ (Below.refl _ _).drew | with_reducible exact HK.out.1 _ (bthen (HK.out.2 _ (by assumption)) hb (HK.out.2 _ (by assumption)).size) | with_reducible exact HK.out.1 _ ((HK.out.2 _ (by assumption)).alloc (HK.out.2 _ (by assumption)).size _) | with_reducible exact HK.out.1 _ (HBw.out.alloc HBw.out.size _) | with_reducible exact HK.out.1 _ ((Below.refl _ _).alloc (Nat.le_refl _) _) | with_reducible exact HK.out.1 _ ((HK.out.2 _ (by assumption)).alloc (HK.out.2 _ (by assumption)).size _).drew | with_reducible exact HK.out.1 _ (HBw.out.alloc HBw.out.size _).drew | with_reducible exact HK.out.1 _ ((Below.refl _ _).alloc (Nat.le_refl _) _).drew | with_reducible exact HK.out.1 _ ((((HBw.out.setCell (p := ⟨_, 0, none⟩) HQ.out.2 _).setCell (p := ⟨_, 1, none⟩) HQ.out.2 _).setCell (p := ⟨_, 2, none⟩) HQ.out.2 _).setCell (p := ⟨_, 3, none⟩) HQ.out.2 _)) ((first | (go_at_call 49; refine (toBox_any _ _ _ _ _).mono ?_; rintro e w1 ⟨rfl, hb⟩; (first | (with_reducible have HQ := Lib.hid (And.intro (HQ.out.1.next hb) HQ.out.2)) | (with_reducible have HQ := Lib.hid (And.intro ((Has.new _ _ _).next hb) HBw.out.size)) | (with_reducible have HQ := Lib.hid (And.intro ((Has.new _ _ _).next hb) (Nat.le_refl W0.heap.size))) | (with_reducible have HQ := Lib.hid (And.intro ((Has.new _ _ _).drew.next hb) HBw.out.size)) | (with_reducible have HQ := Lib.hid (And.intro ((Has.new _ _ _).drew.next hb) (Nat.le_refl W0.heap.size))) | skip); have HBw := Lib.hid (bthen (HK.out.2 _ (by assumption)) hb (HK.out.2 _ (by assumption)).size); dsimp only) | (go_at_call 36; refine (shared_spec _ _ _ _ _ _ _ _ _).mono ?_; rintro e w1 ⟨rfl, hb⟩; (first | (with_reducible have HQ := Lib.hid (And.intro (HQ.out.1.next hb) HQ.out.2)) | (with_reducible have HQ := Lib.hid (And.intro ((Has.new _ _ _).next hb) HBw.out.size)) | (with_reducible have HQ := Lib.hid (And.intro ((Has.new _ _ _).next hb) (Nat.le_refl W0.heap.size))) | (with_reducible have HQ := Lib.hid (And.intro ((Has.new _ _ _).drew.next hb) HBw.out.size)) | (with_reducible have HQ := Lib.hid (And.intro ((Has.new _ _ _).drew.next hb) (Nat.le_refl W0.heap.size))) | skip); have HBw := Lib.hid (bthen (HK.out.2 _ (by assumption)) hb (HK.out.2 _ (by assumption)).size); (try (have q0 := HQ.out.1.at_ 0 _ rfl; have q1 := HQ.out.1.at_ 1 _ rfl; have q2 := HQ.out.1.at_ 2 _ rfl; have q3 := HQ.out.1.at_ 3 _ rfl; have f0 := HQ.out.1.free 0; have f1 := HQ.out.1.free 1; have f2 := HQ.out.1.free 2; have f3 := HQ.out.1.free 3)); dsimp only [boxRes])))
    all_goals
      go_wp2_with fail
      go_meet
      first
        | with_reducible exact ⟨_, rfl, rfl, Lib.hid ⟨HK.out.2 _ (by assumption), Has.new _ _ _⟩⟩
        | with_reducible exact ⟨_, rfl, rfl, Lib.hid ⟨HK.out.2 _ (by assumption), (((HQ.out.1.set 0 _).set 1 _).set 2 _).set 3 _⟩⟩
  case rest =>
    obtain ⟨g, rfl, rfl, hW⟩ := hcut
    obtain ⟨W1, rfl⟩ : ∃ W1 : World, W1 = wc := ⟨_, rfl⟩
    have HX := Lib.hid (And.intro (bthen HW.out.1 hW.out.1 HW.out.1.size) hW.out.2)
    have e0 := cell_next hW.out.1 a0
    have e1 := cell_next hW.out.1 a1
    have e2 := cell_next hW.out.1 a2
    have e3 := cell_next hW.out.1 a3
    have e4 := cell_next hW.out.1 b0
    have e5 := cell_next hW.out.1 b1
    have e6 := cell_next hW.out.1 b2
    have e7 := cell_next hW.out.1 b3
    clear a0 a1 a2 a3 b0 b1 b2 b3 hW
    go_upto_region 2 with fail
    go_cut [7, 8] (fun p k wx => ∃ g' : Nat, p = .pointer (some ⟨g', 0, none⟩) ∧ k = .bool (shK a b c d a' b' c' d') ∧ Hid (Below W1.heap.size W1 wx ∧ Has wx g' [.int .i64 (ifK (shK a b c d a' b' c' d') (max a a')), .int .i64 (ifK (shK a b c d a' b' c' d') (max b b')), .int .i64 (ifK (shK a b c d a' b' c' d') (min c c')), .int .i64 (ifK (shK a b c d a' b' c' d') (min d d'))]))
    case first =>
      have HK : Hid ((∀ W : World, Below W1.heap.size W1 W → W.cell? ⟨w.heap.size, 0, none⟩ = some (.int .i64 a) ∧ W.cell? ⟨w.heap.size, 1, none⟩ = some (.int .i64 b) ∧ W.cell? ⟨w.heap.size, 2, none⟩ = some (.int .i64 c) ∧ W.cell? ⟨w.heap.size, 3, none⟩ = some (.int .i64 d) ∧ W.cell? ⟨w.heap.size + 1, 0, none⟩ = some (.int .i64 a') ∧ W.cell? ⟨w.heap.size + 1, 1, none⟩ = some (.int .i64 b') ∧ W.cell? ⟨w.heap.size + 1, 2, none⟩ = some (.int .i64 c') ∧ W.cell? ⟨w.heap.size + 1, 3, none⟩ = some (.int .i64 d') ∧ Hid (Below W1.heap.size W1 W)) ∧ (∀ W : World, (W.cell? ⟨w.heap.size, 0, none⟩ = some (.int .i64 a) ∧ W.cell? ⟨w.heap.size, 1, none⟩ = some (.int .i64 b) ∧ W.cell? ⟨w.heap.size, 2, none⟩ = some (.int .i64 c) ∧ W.cell? ⟨w.heap.size, 3, none⟩ = some (.int .i64 d) ∧ W.cell? ⟨w.heap.size + 1, 0, none⟩ = some (.int .i64 a') ∧ W.cell? ⟨w.heap.size + 1, 1, none⟩ = some (.int .i64 b') ∧ W.cell? ⟨w.heap.size + 1, 2, none⟩ = some (.int .i64 c') ∧ W.cell? ⟨w.heap.size + 1, 3, none⟩ = some (.int .i64 d') ∧ Hid (Below W1.heap.size W1 W)) → Below W1.heap.size W1 W)) := Lib.hid ⟨fun W h => ⟨cell_next h (by assumption), cell_next h (by assumption), cell_next h (by assumption), cell_next h (by assumption), cell_next h (by assumption), cell_next h (by assumption), cell_next h (by assumption), cell_next h (by assumption), Lib.hid h⟩, fun W h => h.2.2.2.2.2.2.2.2.out⟩
      go_region_held3 (fun W => W.cell? ⟨w.heap.size, 0, none⟩ = some (.int .i64 a) ∧ W.cell? ⟨w.heap.size, 1, none⟩ = some (.int .i64 b) ∧ W.cell? ⟨w.heap.size, 2, none⟩ = some (.int .i64 c) ∧ W.cell? ⟨w.heap.size, 3, none⟩ = some (.int .i64 d) ∧ W.cell? ⟨w.heap.size + 1, 0, none⟩ = some (.int .i64 a') ∧ W.cell? ⟨w.heap.size + 1, 1, none⟩ = some (.int .i64 b') ∧ W.cell? ⟨w.heap.size + 1, 2, none⟩ = some (.int .i64 c') ∧ W.cell? ⟨w.heap.size + 1, 3, none⟩ = some (.int .i64 d') ∧ Hid (Below W1.heap.size W1 W)) (first | with_reducible assumption | with_reducible exact HK.out.1 _ (Below.refl _ _).drew | with_reducible exact HK.out.1 _ (bthen (HK.out.2 _ (by assumption)) hb (HK.out.2 _ (by assumption)).size) | with_reducible exact HK.out.1 _ ((HK.out.2 _ (by assumption)).alloc (HK.out.2 _ (by assumption)).size _) | with_reducible exact HK.out.1 _ (HBw.out.alloc HBw.out.size _) | with_reducible exact HK.out.1 _ ((Below.refl _ _).alloc (Nat.le_refl _) _) | with_reducible exact HK.out.1 _ ((HK.out.2 _ (by assumption)).alloc (HK.out.2 _ (by assumption)).size _).drew | with_reducible exact HK.out.1 _ (HBw.out.alloc HBw.out.size _).drew | with_reducible exact HK.out.1 _ ((Below.refl _ _).alloc (Nat.le_refl _) _).drew | with_reducible exact HK.out.1 _ ((((HBw.out.setCell (p := ⟨_, 0, none⟩) HQ.out.2 _).setCell (p := ⟨_, 1, none⟩) HQ.out.2 _).setCell (p := ⟨_, 2, none⟩) HQ.out.2 _).setCell (p := ⟨_, 3, none⟩) HQ.out.2 _)) ((first | (go_at_call 49; refine (toBox_any _ _ _ _ _).mono ?_; rintro e w1 ⟨rfl, hb⟩; (first | (with_reducible have HQ := Lib.hid (And.intro (HQ.out.1.next hb) HQ.out.2)) | (with_reducible have HQ := Lib.hid (And.intro ((Has.new _ _ _).next hb) HBw.out.size)) | (with_reducible have HQ := Lib.hid (And.intro ((Has.new _ _ _).next hb) (Nat.le_refl W1.heap.size))) | (with_reducible have HQ := Lib.hid (And.intro ((Has.new _ _ _).drew.next hb) HBw.out.size)) | (with_reducible have HQ := Lib.hid (And.intro ((Has.new _ _ _).drew.next hb) (Nat.le_refl W1.heap.size))) | skip); have HBw := Lib.hid (bthen (HK.out.2 _ (by assumption)) hb (HK.out.2 _ (by assumption)).size); dsimp only) | (go_at_call 35; refine (shared_impl _ _ _ _ _ _ _ _ _).mono ?_; rintro e w1 ⟨rfl, hb⟩; (first | (with_reducible have HQ := Lib.hid (And.intro (HQ.out.1.next hb) HQ.out.2)) | (with_reducible have HQ := Lib.hid (And.intro ((Has.new _ _ _).next hb) HBw.out.size)) | (with_reducible have HQ := Lib.hid (And.intro ((Has.new _ _ _).next hb) (Nat.le_refl W1.heap.size))) | (with_reducible have HQ := Lib.hid (And.intro ((Has.new _ _ _).drew.next hb) HBw.out.size)) | (with_reducible have HQ := Lib.hid (And.intro ((Has.new _ _ _).drew.next hb) (Nat.le_refl W1.heap.size))) | skip); have HBw := Lib.hid (bthen (HK.out.2 _ (by assumption)) hb (HK.out.2 _ (by assumption)).size); (try (have q0 := HQ.out.1.at_ 0 _ rfl; have q1 := HQ.out.1.at_ 1 _ rfl; have q2 := HQ.out.1.at_ 2 _ rfl; have q3 := HQ.out.1.at_ 3 _ rfl; have f0 := HQ.out.1.free 0; have f1 := HQ.out.1.free 1; have f2 := HQ.out.1.free 2; have f3 := HQ.out.1.free 3)); dsimp only [boxRes])))
      all_goals
        go_wp2_with fail
        go_meet
        first
          | with_reducible exact ⟨_, rfl, rfl, Lib.hid ⟨HK.out.2 _ (by assumption), Has.new _ _ _⟩⟩
          | with_reducible exact ⟨_, rfl, rfl, Lib.hid ⟨HK.out.2 _ (by assumption), (((HQ.out.1.set 0 _).set 1 _).set 2 _).set 3 _⟩⟩
    case rest =>
      obtain ⟨g', rfl, rfl, hW⟩ := hcut
      have HT := Lib.hid (bthen HX.out.1 hW.out.1 HX.out.1.size)
      have HG := HX.out.2.next hW.out.1
      have HG' := hW.out.2
      clear hW e0 e1 e2 e3 e4 e5 e6 e7
      have c0 := HG.at_ 0 _ rfl
      have c1 := HG.at_ 1 _ rfl
      have c2 := HG.at_ 2 _ rfl
      have c3 := HG.at_ 3 _ rfl
      have d0 := HG'.at_ 0 _ rfl
      have d1 := HG'.at_ 1 _ rfl
      have d2 := HG'.at_ 2 _ rfl
      have d3 := HG'.at_ 3 _ rfl
      clear HG HG'
      go_wp2_with fail
      refine (eqBox_same _ _ _ _ _).mono ?_
      rintro e w3 ⟨rfl, hb⟩
      have HU := Lib.hid (bthen HT.out hb HT.out.size)
      clear hb c0 c1 c2 c3 d0 d1 d2 d3
      go_wp2_with fail
      go_ret
      exact ⟨rfl, HU.out⟩

/-! ### The row's step. -/
set_option maxRecDepth 100000 in
theorem lifted (os : Os) (started : os.Started) (H : Type) (enc : TypeId × Value → H) :
    ReturnsInHanded {} Try.checked os 11 .any (Rows.fnExactSharedBoxSpec.pre6 enc Try.prog Try.f11 Rows.fnExactSharedBoxRow.domain false) (Rows.fnExactSharedBoxSpec.post enc Try.prog Try.f11 false true false false) := by
  refine returnsInHanded_of_change (C := Try.checked) own started (by kernel_rfl) Try.func11
    (ChangeSpec.witness6 (enc := enc) (C := Try.checked) false ⟨#[], #[.agg #[.int .i64 0, .int .i64 0, .int .i64 0, .int .i64 0], .agg #[.int .i64 0, .int .i64 0, .int .i64 0, .int .i64 0]], []⟩ 8 (by kernel_rfl) (by kernel_rfl) (by kernel_rfl) (by kernel_rfl)) ?_
  intro W base args ds gs before hval0 hW hcnd _
  have hval : ∀ (j : Nat) t v, Try.f11.params[j]? = some t → args[j]? = some v → Value.okWide Try.prog W .any base t v := hval0
  have hW' := hW
  obtain ⟨p, q, hA0, hV, rfl, hfz, hnd⟩ := hW
  have hA : DataW.TrodAll enc Try.prog W 0 (fun _ => true) true Try.f11.params.toList args.toList ds p := hA0
  rw [Try.params11] at hA hval
  obtain ⟨v0, vs0, d0, ds0, p0, q0, hargs, rfl, rfl, h0, r0⟩ := trodAll_cons hA
  obtain ⟨v1, vs1, d1, ds1, p1, q1, rfl, rfl, rfl, h1, r1⟩ := trodAll_cons r0
  obtain ⟨rfl, rfl, rfl⟩ := trodAll_nil r1
  obtain rfl : args = #[v0, v1] := by cases args; simp_all
  obtain ⟨rfl, rfl⟩ := trodVars_none hV
  have k0 := h0
  have lt0 : ∀ x ∈ p0, x.block < W.heap.size := by obtain ⟨m, hm⟩ := k0; exact DataW.trod_lt m _ _ _ hm
  obtain ⟨a0, b0, c0, e0, rfl⟩ := open_box (hval 0 65 v0 rfl rfl) h0
  have k1 := h1
  have lt1 : ∀ x ∈ p1, x.block < W.heap.size := by obtain ⟨m, hm⟩ := k1; exact DataW.trod_lt m _ _ _ hm
  obtain ⟨a1, b1, c1, e1, rfl⟩ := open_box (hval 1 65 v1 rfl rfl) h1
  clear hA0 hval0
  refine (walk a0 b0 c0 e0 a1 b1 c1 e1 W).mono fun e W1 ⟨he, bel⟩ => ?_
  subst he
  exact ⟨_, rfl, _, _, _, [], _, [], hW', trodAll_mk1 (shut_bool Try.underlying4 _), (trodAll_cons_mk (Below.trod laidOut (by kernel_rfl) (of_decide_eq_true (by kernel_rfl)) k0 bel lt0) (trodAll_cons_mk (Below.trod laidOut (by kernel_rfl) (of_decide_eq_true (by kernel_rfl)) k1 bel lt1) trodAll_mk0)), rfl, bel.frame _, fun h => by cases h⟩

/-- The statement. -/
theorem proved : Rows.FnExactSharedBoxSaid :=
  OpenClaim.holds_of_wide 11 Try.f11 rfl rfl rfl rfl rfl rfl rfl ⟨rfl, rfl, rfl, rfl, rfl⟩ rfl rfl rfl rfl rfl (by kernel_rfl) Try.func11 (by kernel_rfl)
    (of_decide_eq_true (by kernel_rfl)) (by unfold Func.isWrapper; first | (rw [if_pos (by decide +kernel)]; kernel_rfl) | (rw [if_neg (by decide +kernel)]; exact ⟨rfl, rfl⟩))
    (fun os started H enc _ => lifted os started H enc)
#print axioms proved
end Go.Proofs.Ytjnimedbjmihaaa.fnExactSharedBox
