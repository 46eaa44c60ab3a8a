/-
  Soundings as text: contracts of impl.SoundingText, spec.l8Text, spec.SoundingText over this translation. Conditions: stated at each theorem.
-/
import Derived.Test.YtklbefdpfhidkaaDoorNt
namespace Go.Proofs.YtklbefdpfhidkaaDoor
open Go.RowKit Go.Sort

/-- A sounding as text. -/
def txtS (v : SD) : ByteArray := ((((((((itoT v.id ++ ⟨#[64]⟩) ++ itoT v.x) ++ ⟨#[44]⟩) ++ itoT v.y) ++ ⟨#[58]⟩) ++ itoT v.dep) ++ ⟨#[43, 45]⟩) ++ itoT v.dbt)
def stT (v : SD) : ByteArray := if sdB v then txtS v else ⟨#[]⟩
def StPost (v : SD) (w : World) (e : Ending) (w' : World) : Prop := e = .returned (.tuple #[.string (stT v), .bool (sdB v)]) ∧ Below w.heap.size w w'
theorem st_no {v : SD} {w w' : World} (h : sdB v = false) (hb : Below w.heap.size w w') : StPost v w (.returned (.tuple #[.string ⟨#[]⟩, .bool false])) w' := ⟨by unfold stT; rw [h]; rfl, hb⟩
theorem st_yes {v : SD} {s : ByteArray} {w w' : World} (h : sdB v = true) (hs : s = txtS v) (hb : Below w.heap.size w w') : StPost v w (.returned (.tuple #[.string s, .bool true])) w' := ⟨by unfold stT; rw [h, if_pos rfl, hs], hb⟩
theorem txtS_size (v : SD) (h : sdB v = true) : (txtS v).size ≤ 35 := by
  obtain ⟨⟨i1, i2⟩, ⟨x1, x2⟩, ⟨y1, y2⟩, ⟨d1, d2⟩, ⟨b1, b2⟩⟩ := sdB_parts h
  have l1 := itoT_six v.id (by omega) (by omega)
  have l2 := itoT_six v.x (by omega) (by omega)
  have l3 := itoT_six v.y (by omega) (by omega)
  have l4 := itoT_six v.dep (by omega) (by omega)
  have l5 := itoT_six v.dbt (by omega) (by omega)
  have z1 : (⟨#[64]⟩ : ByteArray).size = 1 := rfl
  have z2 : (⟨#[44]⟩ : ByteArray).size = 1 := rfl
  have z3 : (⟨#[58]⟩ : ByteArray).size = 1 := rfl
  have z4 : (⟨#[43, 45]⟩ : ByteArray).size = 2 := rfl
  unfold txtS
  simp only [ByteArray.size_append]
  omega
/-- The pieces of the text, each by its own name. -/
theorem txtS_parts (v : SD) (h : sdB v = true) : ∃ s1 s2 s3 s4 s5 s6 s7 s8 : ByteArray, (∀ w, (Op.stringOp .add (itoT v.id) ⟨#[64]⟩).run Tryd.prog w = .ok (.string s1) w) ∧ (∀ w, (Op.stringOp .add s1 (itoT v.x)).run Tryd.prog w = .ok (.string s2) w) ∧ (∀ w, (Op.stringOp .add s2 ⟨#[44]⟩).run Tryd.prog w = .ok (.string s3) w) ∧ (∀ w, (Op.stringOp .add s3 (itoT v.y)).run Tryd.prog w = .ok (.string s4) w) ∧ (∀ w, (Op.stringOp .add s4 ⟨#[58]⟩).run Tryd.prog w = .ok (.string s5) w) ∧ (∀ w, (Op.stringOp .add s5 (itoT v.dep)).run Tryd.prog w = .ok (.string s6) w) ∧ (∀ w, (Op.stringOp .add s6 ⟨#[43, 45]⟩).run Tryd.prog w = .ok (.string s7) w) ∧ (∀ w, (Op.stringOp .add s7 (itoT v.dbt)).run Tryd.prog w = .ok (.string s8) w) ∧ s8 = txtS v := by
  obtain ⟨⟨i1, i2⟩, ⟨x1, x2⟩, ⟨y1, y2⟩, ⟨d1, d2⟩, ⟨b1, b2⟩⟩ := sdB_parts h
  have l1 := itoT_six v.id (by omega) (by omega)
  have l2 := itoT_six v.x (by omega) (by omega)
  have l3 := itoT_six v.y (by omega) (by omega)
  have l4 := itoT_six v.dep (by omega) (by omega)
  have l5 := itoT_six v.dbt (by omega) (by omega)
  have z1 : (⟨#[64]⟩ : ByteArray).size = 1 := rfl
  have z2 : (⟨#[44]⟩ : ByteArray).size = 1 := rfl
  have z3 : (⟨#[58]⟩ : ByteArray).size = 1 := rfl
  have z4 : (⟨#[43, 45]⟩ : ByteArray).size = 2 := rfl
  obtain ⟨s1, h1, e1, q1⟩ := cat_any (itoT v.id) ⟨#[64]⟩ (by omega)
  obtain ⟨s2, h2, e2, q2⟩ := cat_any s1 (itoT v.x) (by omega)
  obtain ⟨s3, h3, e3, q3⟩ := cat_any s2 ⟨#[44]⟩ (by omega)
  obtain ⟨s4, h4, e4, q4⟩ := cat_any s3 (itoT v.y) (by omega)
  obtain ⟨s5, h5, e5, q5⟩ := cat_any s4 ⟨#[58]⟩ (by omega)
  obtain ⟨s6, h6, e6, q6⟩ := cat_any s5 (itoT v.dep) (by omega)
  obtain ⟨s7, h7, e7, q7⟩ := cat_any s6 ⟨#[43, 45]⟩ (by omega)
  obtain ⟨s8, h8, e8, q8⟩ := cat_any s7 (itoT v.dbt) (by omega)
  exact ⟨s1, s2, s3, s4, s5, s6, s7, s8, h1, h2, h3, h4, h5, h6, h7, h8, by rw [e8, e7, e6, e5, e4, e3, e2, e1]; rfl⟩
set_option maxRecDepth 20000 in
set_option maxHeartbeats 3200000 in
theorem l8text_spec (v : SD) (w : World) (h0 : sdB v = true) :
    Calls Tryd.prog 29 #[.agg #[.int .i64 v.id, .int .i64 v.x, .int .i64 v.y, .int .i64 v.dep, .int .i64 v.dbt]] w fun e w' => e = .returned (.string (txtS v)) ∧ Below w.heap.size w w' := by
  obtain ⟨W0, hW0⟩ : ∃ W0, W0 = w.alloc (.cells #[.int .i64 v.id, .int .i64 v.x, .int .i64 v.y, .int .i64 v.dep, .int .i64 v.dbt] 27) := ⟨_, rfl⟩
  have HX : Hid (Below w.heap.size w W0 ∧ Has W0 w.heap.size [.int .i64 v.id, .int .i64 v.x, .int .i64 v.y, .int .i64 v.dep, .int .i64 v.dbt]) := by rw [hW0]; exact Lib.hid (box1 (Below.refl _ _))
  have HE := Lib.hid hW0
  clear hW0
  have a0 := HX.out.2.at_ 0 _ rfl
  have a1 := HX.out.2.at_ 1 _ rfl
  have a2 := HX.out.2.at_ 2 _ rfl
  have a3 := HX.out.2.at_ 3 _ rfl
  have a4 := HX.out.2.at_ 4 _ rfl
  obtain ⟨s1, s2, s3, s4, s5, s6, s7, s8, h1, h2, h3, h4, h5, h6, h7, h8, hs⟩ := txtS_parts v h0
  obtain ⟨⟨i1, i2⟩, ⟨x1, x2⟩, ⟨y1, y2⟩, ⟨d1, d2⟩, ⟨b1, b2⟩⟩ := sdB_parts h0
  have HS := Lib.hid hs
  clear h0 hs
  go_enter Tryd.func29, Tryd.ntmps29
  go_wp2_with fail
  rw [← HE.out]
  have lc0 := lcell (a0)
  have lc1 := lcell (a1)
  have lc2 := lcell (a2)
  have lc3 := lcell (a3)
  have lc4 := lcell (a4)
  refine region_later (W := W0) (by kernel_rfl) (by kernel_rfl) (Below.refl _ _) ?_
  repeat (go_big_quiet_step (((go_at_call 60; exact later_call (num_w _ _ (by omega) (by omega))))))
  refine wpQuiet_nil ?_
  intro W2 hW1
  have HL : Hid (Below W0.heap.size W0 W2) := by obtain ⟨x, rfl⟩ := hW1; exact Lib.hid x.below
  clear hW1 lc0 lc1 lc2 lc3 lc4
  clear a0 a1 a2 a3 a4
  go_wp2_with fail
  go_ret
  exact ⟨by rw [← HS.out]; rfl, bthen HX.out.1 HL.out HX.out.1.size⟩
set_option maxHeartbeats 1600000 in
theorem text_spec (v : SD) (w : World) :
    Calls Tryd.prog 10 #[.agg #[.int .i64 v.id, .int .i64 v.x, .int .i64 v.y, .int .i64 v.dep, .int .i64 v.dbt]] w (StPost v w) := by
  have HX := Lib.hid (box1 (cs := #[.int .i64 v.id, .int .i64 v.x, .int .i64 v.y, .int .i64 v.dep, .int .i64 v.dbt]) (T := 27) (Below.refl _ _) (w := w))
  have a0 := HX.out.2.at_ 0 _ rfl
  have a1 := HX.out.2.at_ 1 _ rfl
  have a2 := HX.out.2.at_ 2 _ rfl
  have a3 := HX.out.2.at_ 3 _ rfl
  have a4 := HX.out.2.at_ 4 _ rfl
  rcases h0 : sdB v with _ | _
  · have H0 := Lib.hid h0
    clear h0
    go_enter Tryd.func10, Tryd.ntmps10
    go_wp2_with fail
    refine (one_spec v _ H0.out _).mono ?_
    rintro e w1 ⟨rfl, hb⟩
    have HT := Lib.hid (bthen HX.out.1 hb HX.out.1.size)
    clear hb a0 a1 a2 a3 a4
    go_wp2_with fail
    go_ret2
    exact st_no H0.out HT.out
  have H0 := Lib.hid h0
  clear h0
  go_enter Tryd.func10, Tryd.ntmps10
  go_wp2_with fail
  refine (one_spec v _ H0.out _).mono ?_
  rintro e W1 ⟨rfl, hb⟩
  have HT := Lib.hid (bthen HX.out.1 hb HX.out.1.size)
  have HX1 := Lib.hid (HX.out.2.next hb)
  clear hb a0 a1 a2 a3 a4
  have a0 := HX1.out.at_ 0 _ rfl
  have a1 := HX1.out.at_ 1 _ rfl
  have a2 := HX1.out.at_ 2 _ rfl
  have a3 := HX1.out.at_ 3 _ rfl
  have a4 := HX1.out.at_ 4 _ rfl
  go_wp2_with fail
  refine (l8text_spec v _ H0.out).mono ?_
  rintro e W2 ⟨rfl, hb⟩
  have HT2 := Lib.hid (bthen HT.out hb HT.out.size)
  clear hb a0 a1 a2 a3 a4
  go_wp2_with fail
  go_ret2
  exact st_yes H0.out rfl HT2.out
set_option maxRecDepth 20000 in
set_option maxHeartbeats 3200000 in
theorem text_impl (v : SD) (w : World) (ht : Pow10 w) :
    Calls Tryd.prog 8 #[.agg #[.int .i64 v.id, .int .i64 v.x, .int .i64 v.y, .int .i64 v.dep, .int .i64 v.dbt]] w (StPost v w) := by
  have HX := Lib.hid (box1 (cs := #[.int .i64 v.id, .int .i64 v.x, .int .i64 v.y, .int .i64 v.dep, .int .i64 v.dbt]) (T := 27) (Below.refl _ _) (w := w))
  have HP := Lib.hid ht
  clear ht
  have a0 := HX.out.2.at_ 0 _ rfl
  have a1 := HX.out.2.at_ 1 _ rfl
  have a2 := HX.out.2.at_ 2 _ rfl
  have a3 := HX.out.2.at_ 3 _ rfl
  have a4 := HX.out.2.at_ 4 _ rfl
  rcases h0 : sdB v with _ | _
  · have H0 := Lib.hid h0
    clear h0
    go_enter Tryd.func8, Tryd.ntmps8
    go_wp2_with fail
    refine (sound_impl v _ H0.out _).mono ?_
    rintro e w1 ⟨rfl, hb⟩
    have HT := Lib.hid (bthen HX.out.1 hb HX.out.1.size)
    clear hb a0 a1 a2 a3 a4
    go_wp2_with fail
    go_ret2
    exact st_no H0.out HT.out
  have H0 := Lib.hid h0
  obtain ⟨s1, s2, s3, s4, s5, s6, s7, s8, h1, h2, h3, h4, h5, h6, h7, h8, hs⟩ := txtS_parts v h0
  obtain ⟨⟨i1, i2⟩, ⟨x1, x2⟩, ⟨y1, y2⟩, ⟨d1, d2⟩, ⟨b1, b2⟩⟩ := sdB_parts h0
  have HS := Lib.hid hs
  clear h0 hs
  go_enter Tryd.func8, Tryd.ntmps8
  go_wp2_with fail
  refine (sound_impl v _ H0.out _).mono ?_
  rintro e W1 ⟨rfl, hb⟩
  have HT := Lib.hid (bthen HX.out.1 hb HX.out.1.size)
  have HX1 := Lib.hid (HX.out.2.next hb)
  have HP1 := Lib.hid (tabIs_below HP.out HT.out)
  clear hb a0 a1 a2 a3 a4
  have a0 := HX1.out.at_ 0 _ rfl
  have a1 := HX1.out.at_ 1 _ rfl
  have a2 := HX1.out.at_ 2 _ rfl
  have a3 := HX1.out.at_ 3 _ rfl
  have a4 := HX1.out.at_ 4 _ rfl
  go_wp2_with fail
  have lc0 := lcell (a0)
  have lc1 := lcell (a1)
  have lc2 := lcell (a2)
  have lc3 := lcell (a3)
  have lc4 := lcell (a4)
  refine region_later (W := W1) (by kernel_rfl) (by kernel_rfl) (Below.refl _ _) ?_
  repeat (go_big_quiet_step (((go_at_call 25; exact later_call (itoa_w _ _ (tabIs_below HP1.out (Later.below _)) (by omega) (by omega))))))
  refine wpQuiet_nil ?_
  intro W2 hW1
  have HL : Hid (Below W1.heap.size W1 W2) := by obtain ⟨x, rfl⟩ := hW1; exact Lib.hid x.below
  clear hW1 lc0 lc1 lc2 lc3 lc4
  have HT2 := Lib.hid (bthen HT.out HL.out HT.out.size)
  clear a0 a1 a2 a3 a4
  go_wp2_with fail
  go_ret2
  exact st_yes H0.out HS.out HT2.out
end Go.Proofs.YtklbefdpfhidkaaDoor
