/-
  Contract of impl.SharedBox over this translation. Conditions: stated at the theorem.
-/
import Derived.Test.YtjnimedbjmihaaaSh
import Derived.StillTailTactics
namespace Go.Proofs.Ytjnimedbjmihaaa
open Go.RowKit

set_option maxRecDepth 20000 in
set_option maxHeartbeats 1600000 in
theorem shared_impl (a b c d a' b' c' d' : Int) (w : World) :
    Calls Try.prog 35 #[.agg #[.int .i64 a, .int .i64 b, .int .i64 c, .int .i64 d], .agg #[.int .i64 a', .int .i64 b', .int .i64 c', .int .i64 d']] w (ShPost a b c d a' b' c' d' w) := by
  have i0 : ∀ w, (Instr.index 84 (.agg #[.int .i64 a', .int .i64 c', .int .i64 b', .int .i64 d']) (.int .i64 0)).run Try.prog w = .ok (.agg #[.int .i64 a', .int .i64 c']) w := fun _ => by kernel_rfl
  have i1 : ∀ w, (Instr.index 84 (.agg #[.int .i64 a', .int .i64 c', .int .i64 b', .int .i64 d']) (.int .i64 1)).run Try.prog w = .ok (.agg #[.int .i64 b', .int .i64 d']) w := fun _ => by kernel_rfl
  rcases h1 : boxB a b c d with _ | _
  · have HR := Lib.hid (boxRes_no (k := shK a b c d a' b' c' d') (by unfold shK; rw [h1]; rfl) (max a a') (max b b') (min c c') (min d d'))
    have H1 := Lib.hid h1
    clear h1
    go_enter Try.func35, Try.ntmps35
    go_wp2_with fail
    refine (isBox_impl_v a b c d _ H1.out _).mono ?_
    rintro e w1 ⟨rfl, hb⟩
    have HX1 := Lib.hid (box3 hb)
    clear hb
    have z0 := HX1.out.2.2.2.at_ 0 _ rfl
    have z1 := HX1.out.2.2.2.at_ 1 _ rfl
    have z2 := HX1.out.2.2.2.at_ 2 _ rfl
    have z3 := HX1.out.2.2.2.at_ 3 _ rfl
    have f0 := HX1.out.2.2.2.free 0
    have f1 := HX1.out.2.2.2.free 1
    have f2 := HX1.out.2.2.2.free 2
    have f3 := HX1.out.2.2.2.free 3
    go_wp2_with fail
    refine bodyPost_ret (v := .tuple #[.agg #[.int .i64 0, .int .i64 0, .int .i64 0, .int .i64 0], .bool false]) (by simp [results, Try.results35, go_sem, z0, z1, z2, z3]) rfl ⟨congrArg Ending.returned HR.out, ?_⟩
    repeat (first | exact HX1.out.1 | refine Below.setCell ?_ (by simp; try omega) _)
  rcases h2 : boxB a' b' c' d' with _ | _
  · have HR := Lib.hid (boxRes_no (k := shK a b c d a' b' c' d') (by unfold shK; rw [h1, h2]; rfl) (max a a') (max b b') (min c c') (min d d'))
    have H1 := Lib.hid h1
    have H2 := Lib.hid h2
    clear h1 h2
    go_enter Try.func35, Try.ntmps35
    go_wp2_with fail
    refine (isBox_impl_v a b c d _ H1.out _).mono ?_
    rintro e w1 ⟨rfl, hb⟩
    have HX1 := Lib.hid (box3 hb)
    clear hb
    have c0 := HX1.out.2.2.1.at_ 0 _ rfl
    have c1 := HX1.out.2.2.1.at_ 1 _ rfl
    have c2 := HX1.out.2.2.1.at_ 2 _ rfl
    have c3 := HX1.out.2.2.1.at_ 3 _ rfl
    go_wp2_with fail
    refine (isBox_impl_v a' b' c' d' _ H2.out _).mono ?_
    rintro e w2 ⟨rfl, hb⟩
    have HX2 := Lib.hid (And.intro (bthen HX1.out.1 hb HX1.out.1.size) (HX1.out.2.2.2.next hb))
    clear hb c0 c1 c2 c3
    have z0 := HX2.out.2.at_ 0 _ rfl
    have z1 := HX2.out.2.at_ 1 _ rfl
    have z2 := HX2.out.2.at_ 2 _ rfl
    have z3 := HX2.out.2.at_ 3 _ rfl
    have f0 := HX2.out.2.free 0
    have f1 := HX2.out.2.free 1
    have f2 := HX2.out.2.free 2
    have f3 := HX2.out.2.free 3
    go_wp2_with fail
    refine bodyPost_ret (v := .tuple #[.agg #[.int .i64 0, .int .i64 0, .int .i64 0, .int .i64 0], .bool false]) (by simp [results, Try.results35, go_sem, z0, z1, z2, z3]) rfl ⟨congrArg Ending.returned HR.out, ?_⟩
    repeat (first | exact HX2.out.1 | refine Below.setCell ?_ (by simp; try omega) _)
  have H1 := Lib.hid h1
  have H2 := Lib.hid h2
  clear h1 h2
  go_enter Try.func35, Try.ntmps35
  go_wp2_with fail
  refine (isBox_impl_v a b c d _ H1.out _).mono ?_
  rintro e w1 ⟨rfl, hb⟩
  have HX1 := Lib.hid (box3 hb)
  clear hb
  have c0 := HX1.out.2.2.1.at_ 0 _ rfl
  have c1 := HX1.out.2.2.1.at_ 1 _ rfl
  have c2 := HX1.out.2.2.1.at_ 2 _ rfl
  have c3 := HX1.out.2.2.1.at_ 3 _ rfl
  go_wp2_with fail
  refine (isBox_impl_v a' b' c' d' _ H2.out _).mono ?_
  rintro e w2 ⟨rfl, hb⟩
  have HX2 := Lib.hid (And.intro (bthen HX1.out.1 hb HX1.out.1.size) (And.intro (HX1.out.2.1.next hb) (And.intro (HX1.out.2.2.1.next hb) (HX1.out.2.2.2.next hb))))
  clear hb c0 c1 c2 c3
  have c0 := HX2.out.2.1.at_ 0 _ rfl
  have c1 := HX2.out.2.1.at_ 1 _ rfl
  have c2 := HX2.out.2.1.at_ 2 _ rfl
  have c3 := HX2.out.2.1.at_ 3 _ rfl
  go_wp2_with fail
  refine (spans_any a b c d _).mono ?_
  rintro e w3 ⟨rfl, hb⟩
  have HX3 := Lib.hid (And.intro (bthen HX2.out.1 hb HX2.out.1.size) (And.intro (HX2.out.2.2.1.next hb) (HX2.out.2.2.2.next hb)))
  clear hb c0 c1 c2 c3
  have c0 := HX3.out.2.1.alloc (.cells #[.int .i64 a, .int .i64 c, .int .i64 b, .int .i64 d] 84) |>.at_ 0 _ rfl
  have c1 := HX3.out.2.1.alloc (.cells #[.int .i64 a, .int .i64 c, .int .i64 b, .int .i64 d] 84) |>.at_ 1 _ rfl
  have c2 := HX3.out.2.1.alloc (.cells #[.int .i64 a, .int .i64 c, .int .i64 b, .int .i64 d] 84) |>.at_ 2 _ rfl
  have c3 := HX3.out.2.1.alloc (.cells #[.int .i64 a, .int .i64 c, .int .i64 b, .int .i64 d] 84) |>.at_ 3 _ rfl
  go_wp2_with fail
  refine (spans_any a' b' c' d' _).mono ?_
  rintro e w4 ⟨rfl, hb⟩
  have HX4 := Lib.hid (And.intro (bthen HX3.out.1 (box1 hb).1 HX3.out.1.size) (And.intro ((HX3.out.2.2.alloc _).next hb) (box1 hb).2))
  clear hb c0 c1 c2 c3
  go_wp2_with fail
  refine wp_loop_rounds 3 ?_
  rw [rounds_succ]
  have s0 := HX4.out.2.2.at_ 0 _ rfl
  have s1 := HX4.out.2.2.at_ 1 _ rfl
  go_wp2_with fail
  clear s0 s1
  have hm0 : (if a < a' then a' else a) = max a a' := by split <;> omega
  have hm1 : (if c' < c then c' else c) = min c c' := by split <;> omega
  have hm2 : (if b < b' then b' else b) = max b b' := by split <;> omega
  have hm3 : (if d' < d then d' else d) = min d d' := by split <;> omega
  have HM := Lib.hid (And.intro hm0 (And.intro hm1 (And.intro hm2 hm3)))
  clear hm0 hm1 hm2 hm3
  obtain ⟨W5, hW5⟩ : ∃ W5, W5 = w4.alloc (.cells #[.int .i64 a', .int .i64 c'] 83) := ⟨_, rfl⟩
  have HX5 : Hid (Below w.heap.size w W5 ∧ Has W5 (w.heap.size + 1 + 1) [.int .i64 0, .int .i64 0, .int .i64 0, .int .i64 0] ∧ Has W5 w3.heap.size [.int .i64 a, .int .i64 c, .int .i64 b, .int .i64 d] ∧ Has W5 w4.heap.size [.int .i64 a', .int .i64 c'] ∧ w.heap.size ≤ w3.heap.size) := by
    rw [hW5]
    exact ⟨HX4.out.1.alloc HX4.out.1.size _, HX4.out.2.1.alloc _, HX4.out.2.2.alloc _, Has.new _ _ _, HX3.out.1.size⟩
  rw [← hW5]
  clear hW5
  have s0 := HX5.out.2.2.1.at_ 0 _ rfl
  have s1 := HX5.out.2.2.1.at_ 1 _ rfl
  have s4 := HX5.out.2.2.2.1.at_ 0 _ rfl
  have s5 := HX5.out.2.2.2.1.at_ 1 _ rfl
  have f0 := HX5.out.2.2.1.free 0
  have f1 := HX5.out.2.2.1.free 1
  go_still_tail 17, (by kernel_rfl)
  rw [HM.out.1, HM.out.2.1]
  change wpList _ _ _ _ _ W5.drew
  go_wp2_with fail
  rw [rounds_succ]
  go_wp2_with fail
  obtain ⟨W7, hW7⟩ : ∃ W7, W7 = (((W5.setCell ⟨w3.heap.size, 0, none⟩ (.int .i64 (max a a'))).setCell ⟨w3.heap.size, 1, none⟩ (.int .i64 (min c c'))).alloc (.cells #[.int .i64 b', .int .i64 d'] 83)).drew := ⟨_, rfl⟩
  have HX7 : Hid (Below w.heap.size w W7 ∧ Has W7 (w.heap.size + 1 + 1) [.int .i64 0, .int .i64 0, .int .i64 0, .int .i64 0] ∧ Has W7 w3.heap.size [.int .i64 (max a a'), .int .i64 (min c c'), .int .i64 b, .int .i64 d] ∧ Has W7 W5.heap.size [.int .i64 b', .int .i64 d'] ∧ w.heap.size ≤ w3.heap.size ∧ w.heap.size + 1 + 1 < w3.heap.size) := by
    have hne : w3.heap.size ≠ w.heap.size + 1 + 1 := by have := HX3.out.2.2.1; omega
    have hb : Below w.heap.size w ((W5.setCell ⟨w3.heap.size, 0, none⟩ (.int .i64 (max a a'))).setCell ⟨w3.heap.size, 1, none⟩ (.int .i64 (min c c'))) := (HX5.out.1.setCell (p := ⟨w3.heap.size, 0, none⟩) HX5.out.2.2.2.2 _).setCell (p := ⟨w3.heap.size, 1, none⟩) HX5.out.2.2.2.2 _
    have hn := Has.new ((W5.setCell ⟨w3.heap.size, 0, none⟩ (.int .i64 (max a a'))).setCell ⟨w3.heap.size, 1, none⟩ (.int .i64 (min c c'))) #[.int .i64 b', .int .i64 d'] 83
    simp only [World.size_setCell] at hn
    rw [hW7]
    exact ⟨(hb.alloc hb.size _).drew, (((HX5.out.2.1.far hne _).far hne _).alloc _).drew, (((HX5.out.2.2.1.set 0 _).set 1 _).alloc _).drew, hn.drew, HX5.out.2.2.2.2, HX3.out.2.2.1⟩
  rw [← hW7]
  clear hW7 s0 s1 s4 s5 f0 f1
  have s0 := HX7.out.2.2.1.at_ 2 _ rfl
  have s1 := HX7.out.2.2.1.at_ 3 _ rfl
  have s4 := HX7.out.2.2.2.1.at_ 0 _ rfl
  have s5 := HX7.out.2.2.2.1.at_ 1 _ rfl
  have f0 := HX7.out.2.2.1.free 2
  have f1 := HX7.out.2.2.1.free 3
  go_still_tail 17, (by kernel_rfl)
  rw [HM.out.2.2.1, HM.out.2.2.2]
  change wpList _ _ _ _ _ W7.drew
  go_wp2_with fail
  rw [rounds_succ]
  have t0 := HX7.out.2.2.1.at_ 0 _ rfl
  have t1 := HX7.out.2.2.1.at_ 1 _ rfl
  go_wp2_with fail
  have HW8 : Hid (Below w.heap.size w ((W7.setCell ⟨w3.heap.size, 2, none⟩ (.int .i64 (max b b'))).setCell ⟨w3.heap.size, 3, none⟩ (.int .i64 (min d d'))).drew ∧ Has ((W7.setCell ⟨w3.heap.size, 2, none⟩ (.int .i64 (max b b'))).setCell ⟨w3.heap.size, 3, none⟩ (.int .i64 (min d d'))).drew (w.heap.size + 1 + 1) [.int .i64 0, .int .i64 0, .int .i64 0, .int .i64 0]) := by
    have hne : w3.heap.size ≠ w.heap.size + 1 + 1 := by have := HX3.out.2.2.1; omega
    exact ⟨((HX7.out.1.setCell (p := ⟨w3.heap.size, 2, none⟩) HX5.out.2.2.2.2 _).setCell (p := ⟨w3.heap.size, 3, none⟩) HX5.out.2.2.2.2 _).drew, ((HX7.out.2.1.far hne _).far hne _).drew⟩
  refine (from_any (max a a') (max b b') (min c c') (min d d') _).mono ?_
  rintro e w8 ⟨rfl, hb⟩
  have HX8 := Lib.hid (And.intro (bthen HW8.out.1 hb HW8.out.1.size) (HW8.out.2.next hb))
  clear hb s0 s1 s4 s5 f0 f1 t0 t1
  rcases h3 : boxB (max a a') (max b b') (min c c') (min d d') with _ | _
  · have H3 := Lib.hid h3
    have HR := Lib.hid (boxRes_no (k := shK a b c d a' b' c' d') (by unfold shK; rw [H1.out, H2.out, h3]; rfl) (max a a') (max b b') (min c c') (min d d'))
    clear h3
    go_wp2_with fail
    refine (isBox_impl_v (max a a') (max b b') (min c c') (min d d') _ H3.out _).mono ?_
    rintro e w9 ⟨rfl, hb⟩
    have HX9 := Lib.hid (And.intro (bthen HX8.out.1 (box1 hb).1 HX8.out.1.size) (And.intro ((HX8.out.2.alloc _).next hb) (box1 hb).2))
    clear hb
    have z0 := HX9.out.2.1.at_ 0 _ rfl
    have z1 := HX9.out.2.1.at_ 1 _ rfl
    have z2 := HX9.out.2.1.at_ 2 _ rfl
    have z3 := HX9.out.2.1.at_ 3 _ rfl
    have f0 := HX9.out.2.1.free 0
    have f1 := HX9.out.2.1.free 1
    have f2 := HX9.out.2.1.free 2
    have f3 := HX9.out.2.1.free 3
    go_wp2_with fail
    refine bodyPost_ret (v := .tuple #[.agg #[.int .i64 0, .int .i64 0, .int .i64 0, .int .i64 0], .bool false]) (by simp [results, Try.results35, go_sem, z0, z1, z2, z3]) rfl ⟨congrArg Ending.returned HR.out, ?_⟩
    repeat (first | exact HX9.out.1 | refine Below.setCell ?_ (by simp; try omega) _)
  · have H3 := Lib.hid h3
    have HR := Lib.hid (boxRes_yes (k := shK a b c d a' b' c' d') (by unfold shK; rw [H1.out, H2.out, h3]; rfl) (max a a') (max b b') (min c c') (min d d'))
    clear h3
    go_wp2_with fail
    refine (isBox_impl_v (max a a') (max b b') (min c c') (min d d') _ H3.out _).mono ?_
    rintro e w9 ⟨rfl, hb⟩
    have HX9 := Lib.hid (And.intro (bthen HX8.out.1 (box1 hb).1 HX8.out.1.size) (And.intro ((HX8.out.2.alloc _).next hb) (box1 hb).2))
    clear hb
    have z0 := HX9.out.2.1.at_ 0 _ rfl
    have z1 := HX9.out.2.1.at_ 1 _ rfl
    have z2 := HX9.out.2.1.at_ 2 _ rfl
    have z3 := HX9.out.2.1.at_ 3 _ rfl
    have f0 := HX9.out.2.1.free 0
    have f1 := HX9.out.2.1.free 1
    have f2 := HX9.out.2.1.free 2
    have f3 := HX9.out.2.1.free 3
    have c0 := HX9.out.2.2.at_ 0 _ rfl
    have c1 := HX9.out.2.2.at_ 1 _ rfl
    have c2 := HX9.out.2.2.at_ 2 _ rfl
    have c3 := HX9.out.2.2.at_ 3 _ rfl
    go_wp2_with fail
    refine bodyPost_ret (v := .tuple #[.agg #[.int .i64 (max a a'), .int .i64 (max b b'), .int .i64 (min c c'), .int .i64 (min d d')], .bool true]) (by simp [results, Try.results35, go_sem, z0, z1, z2, z3]) rfl ⟨congrArg Ending.returned HR.out, ?_⟩
    repeat (first | exact HX9.out.1 | refine Below.setCell ?_ (by simp; try omega) _)
end Go.Proofs.Ytjnimedbjmihaaa
