/-
  ParseSounding: contract of impl.ParseSounding over this translation. Conditions: stated at the theorem.
-/
import Derived.Test.YtklbefdpfhidkaaDoorPa
namespace Go.Proofs.YtklbefdpfhidkaaDoor
open Go.RowKit Go.Sort

set_option maxRecDepth 20000 in
set_option maxHeartbeats 6400000 in
theorem parse_w (s p0 q0 p1 q1 p2 q2 p3 q3 : ByteArray) (f0 f1 f2 f3 r0 r1 r2 r3 r4 rr : Bool) (n0 n1 n2 n3 n4 : Int)
    (c0 : cutB s mAt = (p0, q0, f0)) (c1 : cutB q0 mCo = (p1, q1, f1)) (c2 : cutB q1 mCl = (p2, q2, f2)) (c3 : cutB q2 mPm = (p3, q3, f3))
    (h0 : RD p0 n0 r0) (h1 : RD p1 n1 r1) (h2 : RD p2 n2 r2) (h3 : RD p3 n3 r3) (h4 : RD q3 n4 r4) (hrr : sdB (⟨n0, n1, n2, n3, n4⟩ : SD) = rr)
    (w : World) (hs : s.size ≤ 1048576) (hD : Doors w) :
    Calls Tryd.prog 9 #[.string s] w (PsPost (⟨n0, n1, n2, n3, n4⟩ : SD) (f0 && r0 && f1 && r1 && f2 && r2 && f3 && r3 && r4 && rr) w) := by
  have HD := Lib.hid hD
  have lp0 := (cut_back _ _ _ _ _ c0).2.1
  have lq0 := (cut_back _ _ _ _ _ c0).2.2
  have lp1 := (cut_back _ _ _ _ _ c1).2.1
  have lq1 := (cut_back _ _ _ _ _ c1).2.2
  have lp2 := (cut_back _ _ _ _ _ c2).2.1
  have lq2 := (cut_back _ _ _ _ _ c2).2.2
  have lp3 := (cut_back _ _ _ _ _ c3).2.1
  have lq3 := (cut_back _ _ _ _ _ c3).2.2
  have HC0 := Lib.hid (fun (W : World) (hW : Doors W) => cut_c s mAt p0 q0 f0 c0 (by omega) W hW)
  have HC1 := Lib.hid (fun (W : World) (hW : Doors W) => cut_c q0 mCo p1 q1 f1 c1 (by omega) W hW)
  have HC2 := Lib.hid (fun (W : World) (hW : Doors W) => cut_c q1 mCl p2 q2 f2 c2 (by omega) W hW)
  have HC3 := Lib.hid (fun (W : World) (hW : Doors W) => cut_c q2 mPm p3 q3 f3 c3 (by omega) W hW)
  have HP0 := Lib.hid (fun (W : World) (hW : Doors W) => parse_c p0 n0 r0 h0 (by omega) W hW)
  have HP1 := Lib.hid (fun (W : World) (hW : Doors W) => parse_c p1 n1 r1 h1 (by omega) W hW)
  have HP2 := Lib.hid (fun (W : World) (hW : Doors W) => parse_c p2 n2 r2 h2 (by omega) W hW)
  have HP3 := Lib.hid (fun (W : World) (hW : Doors W) => parse_c p3 n3 r3 h3 (by omega) W hW)
  have HP4 := Lib.hid (fun (W : World) (hW : Doors W) => parse_c q3 n4 r4 h4 (by omega) W hW)
  have HS := Lib.hid hrr
  clear c0 c1 c2 c3 h0 h1 h2 h3 h4 hrr hD lp0 lq0 lp1 lq1 lp2 lq2 lp3 lq3
  have HX0 : Hid (PX w [.int .i64 0, .int .i64 0, .int .i64 0, .int .i64 0] ((w.alloc (.cells #[.int .i64 0, .int .i64 0, .int .i64 0, .int .i64 0, .int .i64 0] 27)).alloc (.cells #[.int .i64 0, .int .i64 0, .int .i64 0, .int .i64 0] 52))) := by
    have hh := box2 (w := w) (cs := #[.int .i64 0, .int .i64 0, .int .i64 0, .int .i64 0, .int .i64 0]) (ds := #[.int .i64 0, .int .i64 0, .int .i64 0, .int .i64 0]) (T := 27) (T' := 52) (Below.refl _ _)
    exact Lib.hid hh
  have i0 : ∀ w, (Instr.index 53 (.agg #[.string ⟨#[64]⟩, .string ⟨#[44]⟩, .string ⟨#[58]⟩, .string ⟨#[43, 45]⟩]) (.int .i64 0)).run Tryd.prog w = .ok (.string ⟨#[64]⟩) w := fun _ => by kernel_rfl
  have i1 : ∀ w, (Instr.index 53 (.agg #[.string ⟨#[64]⟩, .string ⟨#[44]⟩, .string ⟨#[58]⟩, .string ⟨#[43, 45]⟩]) (.int .i64 1)).run Tryd.prog w = .ok (.string ⟨#[44]⟩) w := fun _ => by kernel_rfl
  have i2 : ∀ w, (Instr.index 53 (.agg #[.string ⟨#[64]⟩, .string ⟨#[44]⟩, .string ⟨#[58]⟩, .string ⟨#[43, 45]⟩]) (.int .i64 2)).run Tryd.prog w = .ok (.string ⟨#[58]⟩) w := fun _ => by kernel_rfl
  have i3 : ∀ w, (Instr.index 53 (.agg #[.string ⟨#[64]⟩, .string ⟨#[44]⟩, .string ⟨#[58]⟩, .string ⟨#[43, 45]⟩]) (.int .i64 3)).run Tryd.prog w = .ok (.string ⟨#[43, 45]⟩) w := fun _ => by kernel_rfl
  go_enter Tryd.func9, Tryd.ntmps9
  go_wp2_with fail
  go_loopw [5, 19] (fun x i wr => (x = .string s ∧ i = .int .i64 0 ∧ Hid (PX w [.int .i64 0, .int .i64 0, .int .i64 0, .int .i64 0] wr)) ∨ (x = .string q0 ∧ i = .int .i64 1 ∧ Hid (f0 = true ∧ r0 = true ∧ PX w [.int .i64 n0, .int .i64 0, .int .i64 0, .int .i64 0] wr)) ∨ (x = .string q1 ∧ i = .int .i64 2 ∧ Hid (f0 = true ∧ r0 = true ∧ f1 = true ∧ r1 = true ∧ PX w [.int .i64 n0, .int .i64 n1, .int .i64 0, .int .i64 0] wr)) ∨ (x = .string q2 ∧ i = .int .i64 3 ∧ Hid (f0 = true ∧ r0 = true ∧ f1 = true ∧ r1 = true ∧ f2 = true ∧ r2 = true ∧ PX w [.int .i64 n0, .int .i64 n1, .int .i64 n2, .int .i64 0] wr)) ∨ (x = .string q3 ∧ i = .int .i64 4 ∧ Hid (f0 = true ∧ r0 = true ∧ f1 = true ∧ r1 = true ∧ f2 = true ∧ r2 = true ∧ f3 = true ∧ r3 = true ∧ PX w [.int .i64 n0, .int .i64 n1, .int .i64 n2, .int .i64 n3] wr))) (fun _ i _ => 4 - (intOf i).toNat)
  case atStart => exact .inl ⟨rfl, rfl, HX0⟩
  case round =>
    rcases hrel with ⟨rfl, rfl, HX⟩ | ⟨rfl, rfl, HX⟩ | ⟨rfl, rfl, HX⟩ | ⟨rfl, rfl, HX⟩ | ⟨rfl, rfl, HX⟩
    · have HX1 := Lib.hid HX.out
      clear HX
      go_wp2_with fail
      refine (HC0.out _ (HD.out.below HX1.out.1)).mono ?_
      rintro e w1 ⟨rfl, hb⟩
      have HX2 := Lib.hid (HX1.out.next hb)
      clear hb
      go_wp2_with fail
      refine (HP0.out _ (HD.out.below HX2.out.1)).mono ?_
      rintro e w2 ⟨rfl, hb⟩
      have HX3 := Lib.hid (HX2.out.next hb)
      clear hb
      have z0 := HX3.out.2.1.at_ 0 _ rfl
      have z1 := HX3.out.2.1.at_ 1 _ rfl
      have z2 := HX3.out.2.1.at_ 2 _ rfl
      have z3 := HX3.out.2.1.at_ 3 _ rfl
      have z4 := HX3.out.2.1.at_ 4 _ rfl
      have y0 := HX3.out.2.1.free 0
      have y1 := HX3.out.2.1.free 1
      have y2 := HX3.out.2.1.free 2
      have y3 := HX3.out.2.1.free 3
      have y4 := HX3.out.2.1.free 4
      have a0 := HX3.out.2.2.at_ 0 _ rfl
      have b0 := HX3.out.2.2.free 0
      rcases f0 with _ | _
      · skip
        have HBE := Lib.hid (show Below w.heap.size w _ from HX3.out.1)
        go_wp2_with fail
        refine bodyPost_ret (v := .tuple #[.agg #[.int .i64 0, .int .i64 0, .int .i64 0, .int .i64 0, .int .i64 0], .bool false]) (by simp [results, Tryd.results9, go_sem, z0, z1, z2, z3, z4]) rfl (ps_no (by simp) ?_)
        repeat (first | with_reducible exact HBE.out | refine Below.setCell ?_ (by simp; try omega) _ | refine Below.alloc ?_ (by simp; try omega) _)
      rcases r0 with _ | _
      · skip
        have HBE := Lib.hid (show Below w.heap.size w _ from HX3.out.1)
        go_wp2_with fail
        refine bodyPost_ret (v := .tuple #[.agg #[.int .i64 0, .int .i64 0, .int .i64 0, .int .i64 0, .int .i64 0], .bool false]) (by simp [results, Tryd.results9, go_sem, z0, z1, z2, z3, z4]) rfl (ps_no (by simp) ?_)
        repeat (first | with_reducible exact HBE.out | refine Below.setCell ?_ (by simp; try omega) _ | refine Below.alloc ?_ (by simp; try omega) _)
      have HX4 := Lib.hid (HX3.out.put 0 (.int .i64 n0))
      go_wp2_with fail
      go_roundw
      case rel => exact .inr (.inl ⟨rfl, rfl, Lib.hid ⟨(by first | rfl | trivial), (by first | rfl | trivial), HX4.out⟩⟩)
      case measure => simp [intOf]
    · obtain ⟨e0f, e0r, HXq⟩ := HX.out
      subst e0f e0r
      have HX1 := Lib.hid HXq
      clear HX HXq
      go_wp2_with fail
      refine (HC1.out _ (HD.out.below HX1.out.1)).mono ?_
      rintro e w1 ⟨rfl, hb⟩
      have HX2 := Lib.hid (HX1.out.next hb)
      clear hb
      go_wp2_with fail
      refine (HP1.out _ (HD.out.below HX2.out.1)).mono ?_
      rintro e w2 ⟨rfl, hb⟩
      have HX3 := Lib.hid (HX2.out.next hb)
      clear hb
      have z0 := HX3.out.2.1.at_ 0 _ rfl
      have z1 := HX3.out.2.1.at_ 1 _ rfl
      have z2 := HX3.out.2.1.at_ 2 _ rfl
      have z3 := HX3.out.2.1.at_ 3 _ rfl
      have z4 := HX3.out.2.1.at_ 4 _ rfl
      have y0 := HX3.out.2.1.free 0
      have y1 := HX3.out.2.1.free 1
      have y2 := HX3.out.2.1.free 2
      have y3 := HX3.out.2.1.free 3
      have y4 := HX3.out.2.1.free 4
      have a0 := HX3.out.2.2.at_ 1 _ rfl
      have b0 := HX3.out.2.2.free 1
      rcases f1 with _ | _
      · skip
        have HBE := Lib.hid (show Below w.heap.size w _ from HX3.out.1)
        go_wp2_with fail
        refine bodyPost_ret (v := .tuple #[.agg #[.int .i64 0, .int .i64 0, .int .i64 0, .int .i64 0, .int .i64 0], .bool false]) (by simp [results, Tryd.results9, go_sem, z0, z1, z2, z3, z4]) rfl (ps_no (by simp) ?_)
        repeat (first | with_reducible exact HBE.out | refine Below.setCell ?_ (by simp; try omega) _ | refine Below.alloc ?_ (by simp; try omega) _)
      rcases r1 with _ | _
      · skip
        have HBE := Lib.hid (show Below w.heap.size w _ from HX3.out.1)
        go_wp2_with fail
        refine bodyPost_ret (v := .tuple #[.agg #[.int .i64 0, .int .i64 0, .int .i64 0, .int .i64 0, .int .i64 0], .bool false]) (by simp [results, Tryd.results9, go_sem, z0, z1, z2, z3, z4]) rfl (ps_no (by simp) ?_)
        repeat (first | with_reducible exact HBE.out | refine Below.setCell ?_ (by simp; try omega) _ | refine Below.alloc ?_ (by simp; try omega) _)
      have HX4 := Lib.hid (HX3.out.put 1 (.int .i64 n1))
      go_wp2_with fail
      go_roundw
      case rel => exact .inr (.inr (.inl ⟨rfl, rfl, Lib.hid ⟨(by first | rfl | trivial), (by first | rfl | trivial), (by first | rfl | trivial), (by first | rfl | trivial), HX4.out⟩⟩))
      case measure => simp [intOf]
    · obtain ⟨e0f, e0r, e1f, e1r, HXq⟩ := HX.out
      subst e0f e0r e1f e1r
      have HX1 := Lib.hid HXq
      clear HX HXq
      go_wp2_with fail
      refine (HC2.out _ (HD.out.below HX1.out.1)).mono ?_
      rintro e w1 ⟨rfl, hb⟩
      have HX2 := Lib.hid (HX1.out.next hb)
      clear hb
      go_wp2_with fail
      refine (HP2.out _ (HD.out.below HX2.out.1)).mono ?_
      rintro e w2 ⟨rfl, hb⟩
      have HX3 := Lib.hid (HX2.out.next hb)
      clear hb
      have z0 := HX3.out.2.1.at_ 0 _ rfl
      have z1 := HX3.out.2.1.at_ 1 _ rfl
      have z2 := HX3.out.2.1.at_ 2 _ rfl
      have z3 := HX3.out.2.1.at_ 3 _ rfl
      have z4 := HX3.out.2.1.at_ 4 _ rfl
      have y0 := HX3.out.2.1.free 0
      have y1 := HX3.out.2.1.free 1
      have y2 := HX3.out.2.1.free 2
      have y3 := HX3.out.2.1.free 3
      have y4 := HX3.out.2.1.free 4
      have a0 := HX3.out.2.2.at_ 2 _ rfl
      have b0 := HX3.out.2.2.free 2
      rcases f2 with _ | _
      · skip
        have HBE := Lib.hid (show Below w.heap.size w _ from HX3.out.1)
        go_wp2_with fail
        refine bodyPost_ret (v := .tuple #[.agg #[.int .i64 0, .int .i64 0, .int .i64 0, .int .i64 0, .int .i64 0], .bool false]) (by simp [results, Tryd.results9, go_sem, z0, z1, z2, z3, z4]) rfl (ps_no (by simp) ?_)
        repeat (first | with_reducible exact HBE.out | refine Below.setCell ?_ (by simp; try omega) _ | refine Below.alloc ?_ (by simp; try omega) _)
      rcases r2 with _ | _
      · skip
        have HBE := Lib.hid (show Below w.heap.size w _ from HX3.out.1)
        go_wp2_with fail
        refine bodyPost_ret (v := .tuple #[.agg #[.int .i64 0, .int .i64 0, .int .i64 0, .int .i64 0, .int .i64 0], .bool false]) (by simp [results, Tryd.results9, go_sem, z0, z1, z2, z3, z4]) rfl (ps_no (by simp) ?_)
        repeat (first | with_reducible exact HBE.out | refine Below.setCell ?_ (by simp; try omega) _ | refine Below.alloc ?_ (by simp; try omega) _)
      have HX4 := Lib.hid (HX3.out.put 2 (.int .i64 n2))
      go_wp2_with fail
      go_roundw
      case rel => exact .inr (.inr (.inr (.inl ⟨rfl, rfl, Lib.hid ⟨(by first | rfl | trivial), (by first | rfl | trivial), (by first | rfl | trivial), (by first | rfl | trivial), (by first | rfl | trivial), (by first | rfl | trivial), HX4.out⟩⟩)))
      case measure => simp [intOf]
    · obtain ⟨e0f, e0r, e1f, e1r, e2f, e2r, HXq⟩ := HX.out
      subst e0f e0r e1f e1r e2f e2r
      have HX1 := Lib.hid HXq
      clear HX HXq
      go_wp2_with fail
      refine (HC3.out _ (HD.out.below HX1.out.1)).mono ?_
      rintro e w1 ⟨rfl, hb⟩
      have HX2 := Lib.hid (HX1.out.next hb)
      clear hb
      go_wp2_with fail
      refine (HP3.out _ (HD.out.below HX2.out.1)).mono ?_
      rintro e w2 ⟨rfl, hb⟩
      have HX3 := Lib.hid (HX2.out.next hb)
      clear hb
      have z0 := HX3.out.2.1.at_ 0 _ rfl
      have z1 := HX3.out.2.1.at_ 1 _ rfl
      have z2 := HX3.out.2.1.at_ 2 _ rfl
      have z3 := HX3.out.2.1.at_ 3 _ rfl
      have z4 := HX3.out.2.1.at_ 4 _ rfl
      have y0 := HX3.out.2.1.free 0
      have y1 := HX3.out.2.1.free 1
      have y2 := HX3.out.2.1.free 2
      have y3 := HX3.out.2.1.free 3
      have y4 := HX3.out.2.1.free 4
      have a0 := HX3.out.2.2.at_ 3 _ rfl
      have b0 := HX3.out.2.2.free 3
      rcases f3 with _ | _
      · skip
        have HBE := Lib.hid (show Below w.heap.size w _ from HX3.out.1)
        go_wp2_with fail
        refine bodyPost_ret (v := .tuple #[.agg #[.int .i64 0, .int .i64 0, .int .i64 0, .int .i64 0, .int .i64 0], .bool false]) (by simp [results, Tryd.results9, go_sem, z0, z1, z2, z3, z4]) rfl (ps_no (by simp) ?_)
        repeat (first | with_reducible exact HBE.out | refine Below.setCell ?_ (by simp; try omega) _ | refine Below.alloc ?_ (by simp; try omega) _)
      rcases r3 with _ | _
      · skip
        have HBE := Lib.hid (show Below w.heap.size w _ from HX3.out.1)
        go_wp2_with fail
        refine bodyPost_ret (v := .tuple #[.agg #[.int .i64 0, .int .i64 0, .int .i64 0, .int .i64 0, .int .i64 0], .bool false]) (by simp [results, Tryd.results9, go_sem, z0, z1, z2, z3, z4]) rfl (ps_no (by simp) ?_)
        repeat (first | with_reducible exact HBE.out | refine Below.setCell ?_ (by simp; try omega) _ | refine Below.alloc ?_ (by simp; try omega) _)
      have HX4 := Lib.hid (HX3.out.put 3 (.int .i64 n3))
      go_wp2_with fail
      go_roundw
      case rel => exact .inr (.inr (.inr (.inr (⟨rfl, rfl, Lib.hid ⟨(by first | rfl | trivial), (by first | rfl | trivial), (by first | rfl | trivial), (by first | rfl | trivial), (by first | rfl | trivial), (by first | rfl | trivial), (by first | rfl | trivial), (by first | rfl | trivial), HX4.out⟩⟩))))
      case measure => simp [intOf]
    · obtain ⟨e0f, e0r, e1f, e1r, e2f, e2r, e3f, e3r, HXq⟩ := HX.out
      subst e0f e0r e1f e1r e2f e2r e3f e3r
      have HX1 := Lib.hid HXq
      clear HX HXq
      go_wp2_with fail
      refine (HP4.out _ (HD.out.below HX1.out.1)).mono ?_
      rintro e w2 ⟨rfl, hb⟩
      have HX3 := Lib.hid (HX1.out.next hb)
      clear hb
      have a0 := HX3.out.2.2.at_ 0 _ rfl
      have a1 := HX3.out.2.2.at_ 1 _ rfl
      have a2 := HX3.out.2.2.at_ 2 _ rfl
      have a3 := HX3.out.2.2.at_ 3 _ rfl
      rcases r4 with _ | _
      · skip
        have HXA : Hid (PX w [.int .i64 n0, .int .i64 n1, .int .i64 n2, .int .i64 n3] (w2.alloc (.cells #[.int .i64 n0, .int .i64 n1, .int .i64 n2, .int .i64 n3, .int .i64 n4] 27))) := Lib.hid (HX3.out.next ((Below.refl _ _).alloc (Nat.le_refl _) _))
        have z0 := HXA.out.2.1.at_ 0 _ rfl
        have z1 := HXA.out.2.1.at_ 1 _ rfl
        have z2 := HXA.out.2.1.at_ 2 _ rfl
        have z3 := HXA.out.2.1.at_ 3 _ rfl
        have z4 := HXA.out.2.1.at_ 4 _ rfl
        have y0 := HXA.out.2.1.free 0
        have y1 := HXA.out.2.1.free 1
        have y2 := HXA.out.2.1.free 2
        have y3 := HXA.out.2.1.free 3
        have y4 := HXA.out.2.1.free 4
        have HBE := Lib.hid (show Below w.heap.size w _ from HXA.out.1)
        go_wp2_with fail
        refine bodyPost_ret (v := .tuple #[.agg #[.int .i64 0, .int .i64 0, .int .i64 0, .int .i64 0, .int .i64 0], .bool false]) (by simp [results, Tryd.results9, go_sem, z0, z1, z2, z3, z4]) rfl (ps_no (by simp) ?_)
        repeat (first | with_reducible exact HBE.out | refine Below.setCell ?_ (by simp; try omega) _ | refine Below.alloc ?_ (by simp; try omega) _)
      go_wp2_with fail
      refine (sound_impl (⟨n0, n1, n2, n3, n4⟩ : SD) rr HS.out _).mono ?_
      rintro e w3 ⟨rfl, hb⟩
      have HXB := Lib.hid (box1 hb)
      have HX4 := Lib.hid (HX3.out.next HXB.out.1)
      clear hb a0 a1 a2 a3
      have v0 := HXB.out.2.at_ 0 _ rfl
      have v1 := HXB.out.2.at_ 1 _ rfl
      have v2 := HXB.out.2.at_ 2 _ rfl
      have v3 := HXB.out.2.at_ 3 _ rfl
      have v4 := HXB.out.2.at_ 4 _ rfl
      have z0 := HX4.out.2.1.at_ 0 _ rfl
      have z1 := HX4.out.2.1.at_ 1 _ rfl
      have z2 := HX4.out.2.1.at_ 2 _ rfl
      have z3 := HX4.out.2.1.at_ 3 _ rfl
      have z4 := HX4.out.2.1.at_ 4 _ rfl
      have y0 := HX4.out.2.1.free 0
      have y1 := HX4.out.2.1.free 1
      have y2 := HX4.out.2.1.free 2
      have y3 := HX4.out.2.1.free 3
      have y4 := HX4.out.2.1.free 4
      rcases rr with _ | _
      · skip
        have HBE := Lib.hid (show Below w.heap.size w _ from HX4.out.1)
        go_wp2_with fail
        refine bodyPost_ret (v := .tuple #[.agg #[.int .i64 0, .int .i64 0, .int .i64 0, .int .i64 0, .int .i64 0], .bool false]) (by simp [results, Tryd.results9, go_sem, z0, z1, z2, z3, z4]) rfl (ps_no (by simp) ?_)
        repeat (first | with_reducible exact HBE.out | refine Below.setCell ?_ (by simp; try omega) _ | refine Below.alloc ?_ (by simp; try omega) _)
      have HBE := Lib.hid (show Below w.heap.size w _ from HX4.out.1)
      go_wp2_with fail
      refine bodyPost_ret (v := .tuple #[.agg #[.int .i64 n0, .int .i64 n1, .int .i64 n2, .int .i64 n3, .int .i64 n4], .bool true]) (by simp [results, Tryd.results9, go_sem, z0, z1, z2, z3, z4]) rfl (ps_yes (v := (⟨n0, n1, n2, n3, n4⟩ : SD)) rfl ?_)
      repeat (first | with_reducible exact HBE.out | refine Below.setCell ?_ (by simp; try omega) _ | refine Below.alloc ?_ (by simp; try omega) _)
end Go.Proofs.YtklbefdpfhidkaaDoor
