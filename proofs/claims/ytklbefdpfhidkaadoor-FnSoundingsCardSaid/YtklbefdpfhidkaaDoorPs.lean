/-
  ParseSounding: contract of spec.ParseSounding over this translation. Conditions: stated at each theorem.
-/
import Derived.Test.YtklbefdpfhidkaaDoorPa
namespace Go.Proofs.YtklbefdpfhidkaaDoor
open Go.RowKit Go.Sort

set_option maxHeartbeats 1600000 in
theorem parse_long (s : ByteArray) (v : SD) (w : World) (hs : (40 : Int) < s.size) :
    Calls Tryd.prog 13 #[.string s] w (PsPost v false w) := by
  have hx := box1 (w := w) (cs := #[.int .i64 0, .int .i64 0, .int .i64 0, .int .i64 0, .int .i64 0]) (T := 27) (Below.refl _ _)
  have z0 := hx.2.at_ 0 _ rfl
  have y0 := hx.2.free 0
  have z1 := hx.2.at_ 1 _ rfl
  have y1 := hx.2.free 1
  have z2 := hx.2.at_ 2 _ rfl
  have y2 := hx.2.free 2
  have z3 := hx.2.at_ 3 _ rfl
  have y3 := hx.2.free 3
  have z4 := hx.2.at_ 4 _ rfl
  have y4 := hx.2.free 4
  have HBE := Lib.hid hx.1
  go_enter Tryd.func13, Tryd.ntmps13
  go_wp2_with fail
  refine bodyPost_ret (v := .tuple #[.agg #[.int .i64 0, .int .i64 0, .int .i64 0, .int .i64 0, .int .i64 0], .bool false]) (by simp [results, Tryd.results13, go_sem, z0, z1, z2, z3, z4]) rfl (ps_no (by simp) ?_)
  repeat (first | with_reducible exact HBE.out | refine Below.setCell ?_ (by simp; try omega) _ | refine Below.alloc ?_ (by simp; try omega) _)
set_option maxRecDepth 20000 in
set_option maxHeartbeats 6400000 in
theorem parse_s (s : ByteArray) (r0 r1 r2 r3 r4 rr : Bool) (n0 n1 n2 n3 n4 : Int) (h0 : RD (headB 64 s) n0 r0) (h1 : RD (headB 44 (tailB 64 s)) n1 r1) (h2 : RD (headB 58 (tailB 44 (tailB 64 s))) n2 r2) (h3 : RD (headB 43 (tailB 58 (tailB 44 (tailB 64 s)))) n3 r3) (h4 : RD (tailB 45 (tailB 43 (tailB 58 (tailB 44 (tailB 64 s))))) n4 r4) (hrr : sdB (⟨n0, n1, n2, n3, n4⟩ : SD) = rr)
    (w : World) (hs : s.size ≤ 40) :
    Calls Tryd.prog 13 #[.string s] w (PsPost (⟨n0, n1, n2, n3, n4⟩ : SD) (rr && decide (txtS (⟨n0, n1, n2, n3, n4⟩ : SD) = s)) w) := by
  have l1 : (tailB 64 s).size ≤ 40 := Nat.le_trans (tailB_size _ _) (by omega)
  have l2 : (tailB 44 (tailB 64 s)).size ≤ 40 := Nat.le_trans (tailB_size _ _) (by omega)
  have l3 : (tailB 58 (tailB 44 (tailB 64 s))).size ≤ 40 := Nat.le_trans (tailB_size _ _) (by omega)
  have l4 : (tailB 43 (tailB 58 (tailB 44 (tailB 64 s)))).size ≤ 40 := Nat.le_trans (tailB_size _ _) (by omega)
  have l5 : (tailB 45 (tailB 43 (tailB 58 (tailB 44 (tailB 64 s))))).size ≤ 40 := Nat.le_trans (tailB_size _ _) (by omega)
  have m0 : (headB 64 s).size ≤ 40 := Nat.le_trans (headB_size _ _) (by omega)
  have m1 : (headB 44 (tailB 64 s)).size ≤ 40 := Nat.le_trans (headB_size _ _) (by omega)
  have m2 : (headB 58 (tailB 44 (tailB 64 s))).size ≤ 40 := Nat.le_trans (headB_size _ _) (by omega)
  have m3 : (headB 43 (tailB 58 (tailB 44 (tailB 64 s)))).size ≤ 40 := Nat.le_trans (headB_size _ _) (by omega)
  obtain ⟨t1, ht1⟩ : ∃ x, x = (tailB 64 s) := ⟨_, rfl⟩
  obtain ⟨t2, ht2⟩ : ∃ x, x = (tailB 44 t1) := ⟨_, rfl⟩
  obtain ⟨t3, ht3⟩ : ∃ x, x = (tailB 58 t2) := ⟨_, rfl⟩
  obtain ⟨t4, ht4⟩ : ∃ x, x = (tailB 43 t3) := ⟨_, rfl⟩
  obtain ⟨t5, ht5⟩ : ∃ x, x = (tailB 45 t4) := ⟨_, rfl⟩
  obtain ⟨d0, hd0⟩ : ∃ x, x = headB 64 s := ⟨_, rfl⟩
  obtain ⟨d1, hd1⟩ : ∃ x, x = headB 44 t1 := ⟨_, rfl⟩
  obtain ⟨d2, hd2⟩ : ∃ x, x = headB 58 t2 := ⟨_, rfl⟩
  obtain ⟨d3, hd3⟩ : ∃ x, x = headB 43 t3 := ⟨_, rfl⟩
  simp only [← ht1, ← ht2, ← ht3, ← ht4, ← ht5, ← hd0, ← hd1, ← hd2, ← hd3] at h0 h1 h2 h3 h4 l1 l2 l3 l4 l5 m0 m1 m2 m3
  have HC0 := Lib.hid (fun (W : World) => l8cut_c s 64 (64 : Int) rfl W (by omega))
  rw [← hd0, ← ht1] at HC0
  have HC1 := Lib.hid (fun (W : World) => l8cut_c t1 44 (44 : Int) rfl W (by omega))
  rw [← hd1, ← ht2] at HC1
  have HC2 := Lib.hid (fun (W : World) => l8cut_c t2 58 (58 : Int) rfl W (by omega))
  rw [← hd2, ← ht3] at HC2
  have HC3 := Lib.hid (fun (W : World) => l8cut_c t3 43 (43 : Int) rfl W (by omega))
  rw [← hd3, ← ht4] at HC3
  have HC4 := Lib.hid (fun (W : World) => l8cut_c t4 45 (45 : Int) rfl W (by omega))
  rw [← ht5] at HC4
  have HP0 := Lib.hid (fun (W : World) => read_c d0 n0 r0 h0 (by omega) W)
  have HP1 := Lib.hid (fun (W : World) => read_c d1 n1 r1 h1 (by omega) W)
  have HP2 := Lib.hid (fun (W : World) => read_c d2 n2 r2 h2 (by omega) W)
  have HP3 := Lib.hid (fun (W : World) => read_c d3 n3 r3 h3 (by omega) W)
  have HP4 := Lib.hid (fun (W : World) => read_c t5 n4 r4 h4 (by omega) W)
  obtain ⟨d4, hd4⟩ : ∃ x, x = headB 45 t4 := ⟨_, rfl⟩
  rw [← hd4] at HC4
  have HS := Lib.hid hrr
  clear h0 h1 h2 h3 h4 hrr ht1 ht2 ht3 ht4 ht5 hd0 hd1 hd2 hd3 hd4 l1 l2 l3 l4 l5 m0 m1 m2 m3
  have HX0 : Hid (PX w [.int .i64 0, .int .i64 0, .int .i64 0, .int .i64 0, .int .i64 0] ((w.alloc (.cells #[.int .i64 0, .int .i64 0, .int .i64 0, .int .i64 0, .int .i64 0] 27)).alloc (.cells #[.int .i64 0, .int .i64 0, .int .i64 0, .int .i64 0, .int .i64 0] 27))) := by
    have hh := box2 (w := w) (cs := #[.int .i64 0, .int .i64 0, .int .i64 0, .int .i64 0, .int .i64 0]) (ds := #[.int .i64 0, .int .i64 0, .int .i64 0, .int .i64 0, .int .i64 0]) (T := 27) (T' := 27) (Below.refl _ _)
    exact Lib.hid hh
  go_enter Tryd.func13, Tryd.ntmps13
  go_wp2_with fail
  refine (HC0.out _).mono ?_
  rintro e w1 ⟨rfl, hb⟩
  have HX1 : Hid (PX w [.int .i64 0, .int .i64 0, .int .i64 0, .int .i64 0, .int .i64 0] w1) := Lib.hid (HX0.out.next hb)
  clear hb
  go_wp2_with fail
  refine (HC1.out _).mono ?_
  rintro e w2 ⟨rfl, hb⟩
  have HX2 : Hid (PX w [.int .i64 0, .int .i64 0, .int .i64 0, .int .i64 0, .int .i64 0] w2) := Lib.hid (HX1.out.next hb)
  clear hb
  go_wp2_with fail
  refine (HC2.out _).mono ?_
  rintro e w3 ⟨rfl, hb⟩
  have HX3 : Hid (PX w [.int .i64 0, .int .i64 0, .int .i64 0, .int .i64 0, .int .i64 0] w3) := Lib.hid (HX2.out.next hb)
  clear hb
  go_wp2_with fail
  refine (HC3.out _).mono ?_
  rintro e w4 ⟨rfl, hb⟩
  have HX4 : Hid (PX w [.int .i64 0, .int .i64 0, .int .i64 0, .int .i64 0, .int .i64 0] w4) := Lib.hid (HX3.out.next hb)
  clear hb
  go_wp2_with fail
  refine (HC4.out _).mono ?_
  rintro e w5 ⟨rfl, hb⟩
  have HX5 : Hid (PX w [.int .i64 0, .int .i64 0, .int .i64 0, .int .i64 0, .int .i64 0] w5) := Lib.hid (HX4.out.next hb)
  clear hb
  go_wp2_with fail
  refine (HP0.out _).mono ?_
  rintro e w6 ⟨rfl, hb⟩
  have HX6 : Hid (PX w [.int .i64 0, .int .i64 0, .int .i64 0, .int .i64 0, .int .i64 0] w6) := Lib.hid (HX5.out.next hb)
  clear hb
  have a0 := HX6.out.2.2.at_ 0 _ rfl
  have b0 := HX6.out.2.2.free 0
  have HY6 : Hid (PX w [.int .i64 n0, .int .i64 0, .int .i64 0, .int .i64 0, .int .i64 0] (w6.setCell ⟨w.heap.size + 1, 0, none⟩ (.int .i64 n0))) := Lib.hid (HX6.out.put 0 _)
  go_wp2_with fail
  refine (HP1.out _).mono ?_
  rintro e w7 ⟨rfl, hb⟩
  have HX7 : Hid (PX w [.int .i64 n0, .int .i64 0, .int .i64 0, .int .i64 0, .int .i64 0] w7) := Lib.hid (HY6.out.next hb)
  clear hb a0 b0
  have a0 := HX7.out.2.2.at_ 1 _ rfl
  have b0 := HX7.out.2.2.free 1
  have HY7 : Hid (PX w [.int .i64 n0, .int .i64 n1, .int .i64 0, .int .i64 0, .int .i64 0] (w7.setCell ⟨w.heap.size + 1, 1, none⟩ (.int .i64 n1))) := Lib.hid (HX7.out.put 1 _)
  go_wp2_with fail
  refine (HP2.out _).mono ?_
  rintro e w8 ⟨rfl, hb⟩
  have HX8 : Hid (PX w [.int .i64 n0, .int .i64 n1, .int .i64 0, .int .i64 0, .int .i64 0] w8) := Lib.hid (HY7.out.next hb)
  clear hb a0 b0
  have a0 := HX8.out.2.2.at_ 2 _ rfl
  have b0 := HX8.out.2.2.free 2
  have HY8 : Hid (PX w [.int .i64 n0, .int .i64 n1, .int .i64 n2, .int .i64 0, .int .i64 0] (w8.setCell ⟨w.heap.size + 1, 2, none⟩ (.int .i64 n2))) := Lib.hid (HX8.out.put 2 _)
  go_wp2_with fail
  refine (HP3.out _).mono ?_
  rintro e w9 ⟨rfl, hb⟩
  have HX9 : Hid (PX w [.int .i64 n0, .int .i64 n1, .int .i64 n2, .int .i64 0, .int .i64 0] w9) := Lib.hid (HY8.out.next hb)
  clear hb a0 b0
  have a0 := HX9.out.2.2.at_ 3 _ rfl
  have b0 := HX9.out.2.2.free 3
  have HY9 : Hid (PX w [.int .i64 n0, .int .i64 n1, .int .i64 n2, .int .i64 n3, .int .i64 0] (w9.setCell ⟨w.heap.size + 1, 3, none⟩ (.int .i64 n3))) := Lib.hid (HX9.out.put 3 _)
  go_wp2_with fail
  refine (HP4.out _).mono ?_
  rintro e w10 ⟨rfl, hb⟩
  have HX10 : Hid (PX w [.int .i64 n0, .int .i64 n1, .int .i64 n2, .int .i64 n3, .int .i64 0] w10) := Lib.hid (HY9.out.next hb)
  clear hb a0 b0
  have a0 := HX10.out.2.2.at_ 4 _ rfl
  have b0 := HX10.out.2.2.free 4
  have HY10 : Hid (PX w [.int .i64 n0, .int .i64 n1, .int .i64 n2, .int .i64 n3, .int .i64 n4] (w10.setCell ⟨w.heap.size + 1, 4, none⟩ (.int .i64 n4))) := Lib.hid (HX10.out.put 4 _)
  have g0 := HY10.out.2.2.at_ 0 _ rfl
  have g1 := HY10.out.2.2.at_ 1 _ rfl
  have g2 := HY10.out.2.2.at_ 2 _ rfl
  have g3 := HY10.out.2.2.at_ 3 _ rfl
  have g4 := HY10.out.2.2.at_ 4 _ rfl
  go_wp2_with fail
  refine (one_spec (⟨n0, n1, n2, n3, n4⟩ : SD) rr HS.out _).mono ?_
  rintro e w11 ⟨rfl, hb⟩
  have HX11 : Hid (PX w [.int .i64 n0, .int .i64 n1, .int .i64 n2, .int .i64 n3, .int .i64 n4] w11) := Lib.hid (HY10.out.next hb)
  clear hb a0 b0 g0 g1 g2 g3 g4
  have z0 := HX11.out.2.1.at_ 0 _ rfl
  have z1 := HX11.out.2.1.at_ 1 _ rfl
  have z2 := HX11.out.2.1.at_ 2 _ rfl
  have z3 := HX11.out.2.1.at_ 3 _ rfl
  have z4 := HX11.out.2.1.at_ 4 _ rfl
  have y0 := HX11.out.2.1.free 0
  have y1 := HX11.out.2.1.free 1
  have y2 := HX11.out.2.1.free 2
  have y3 := HX11.out.2.1.free 3
  have y4 := HX11.out.2.1.free 4
  have g0 := HX11.out.2.2.at_ 0 _ rfl
  have g1 := HX11.out.2.2.at_ 1 _ rfl
  have g2 := HX11.out.2.2.at_ 2 _ rfl
  have g3 := HX11.out.2.2.at_ 3 _ rfl
  have g4 := HX11.out.2.2.at_ 4 _ rfl
  rcases rr with _ | _
  · skip
    have HBE := Lib.hid (show Below w.heap.size w _ from HX11.out.1)
    go_wp2_with fail
    refine bodyPost_ret (v := .tuple #[.agg #[.int .i64 0, .int .i64 0, .int .i64 0, .int .i64 0, .int .i64 0], .bool false]) (by simp [results, Tryd.results13, go_sem, z0, z1, z2, z3, z4]) rfl (ps_no (by simp) ?_)
    repeat (first | with_reducible exact HBE.out | refine Below.setCell ?_ (by simp; try omega) _ | refine Below.alloc ?_ (by simp; try omega) _)
  go_wp2_with fail
  refine (l8text_spec (⟨n0, n1, n2, n3, n4⟩ : SD) _ HS.out).mono ?_
  rintro e w12 ⟨rfl, hb⟩
  have HX12 : Hid (PX w [.int .i64 n0, .int .i64 n1, .int .i64 n2, .int .i64 n3, .int .i64 n4] w12) := Lib.hid (HX11.out.next hb)
  clear hb g0 g1 g2 g3 g4 z0 y0 z1 y1 z2 y2 z3 y3 z4 y4
  have z0 := HX12.out.2.1.at_ 0 _ rfl
  have z1 := HX12.out.2.1.at_ 1 _ rfl
  have z2 := HX12.out.2.1.at_ 2 _ rfl
  have z3 := HX12.out.2.1.at_ 3 _ rfl
  have z4 := HX12.out.2.1.at_ 4 _ rfl
  have y0 := HX12.out.2.1.free 0
  have y1 := HX12.out.2.1.free 1
  have y2 := HX12.out.2.1.free 2
  have y3 := HX12.out.2.1.free 3
  have y4 := HX12.out.2.1.free 4
  have g0 := HX12.out.2.2.at_ 0 _ rfl
  have g1 := HX12.out.2.2.at_ 1 _ rfl
  have g2 := HX12.out.2.2.at_ 2 _ rfl
  have g3 := HX12.out.2.2.at_ 3 _ rfl
  have g4 := HX12.out.2.2.at_ 4 _ rfl
  by_cases heq : txtS (⟨n0, n1, n2, n3, n4⟩ : SD) = s
  · have HQ := Lib.hid heq
    have hba : ((txtS (⟨n0, n1, n2, n3, n4⟩ : SD)).toList == s.toList) = true := by rw [heq]; simp
    clear heq
    have HBE := Lib.hid (show Below w.heap.size w _ from HX12.out.1)
    go_wp2_with fail
    refine bodyPost_ret (v := .tuple #[.agg #[.int .i64 n0, .int .i64 n1, .int .i64 n2, .int .i64 n3, .int .i64 n4], .bool true]) (by simp [results, Tryd.results13, go_sem, z0, z1, z2, z3, z4]) rfl (ps_yes (v := (⟨n0, n1, n2, n3, n4⟩ : SD)) (by simp [HQ.out]) ?_)
    repeat (first | with_reducible exact HBE.out | refine Below.setCell ?_ (by simp; try omega) _ | refine Below.alloc ?_ (by simp; try omega) _)
  · have HQ := Lib.hid heq
    have hba : ((txtS (⟨n0, n1, n2, n3, n4⟩ : SD)).toList == s.toList) = false := beq_eq_false_iff_ne.2 fun e => heq (ba_eq (by rwa [ByteArray.toList_eq, ByteArray.toList_eq] at e))
    clear heq
    have HBE := Lib.hid (show Below w.heap.size w _ from HX12.out.1)
    go_wp2_with fail
    refine bodyPost_ret (v := .tuple #[.agg #[.int .i64 0, .int .i64 0, .int .i64 0, .int .i64 0, .int .i64 0], .bool false]) (by simp [results, Tryd.results13, go_sem, z0, z1, z2, z3, z4]) rfl (ps_no (by simp [HQ.out]) ?_)
    repeat (first | with_reducible exact HBE.out | refine Below.setCell ?_ (by simp; try omega) _ | refine Below.alloc ?_ (by simp; try omega) _)
end Go.Proofs.YtklbefdpfhidkaaDoor
