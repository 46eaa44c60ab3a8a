/-
  Proved here: for every slice of soundings, spot and number the law laws.FnExactSupportedDepth returns true (impl.SupportedDepth answers as spec.SupportedDepth and writes into no argument), and the arguments read afterwards as before.
  Conditions: none beyond the row's own.
-/
import Derived.Test.YtklbefdpfhidkaaQk
namespace Go.Proofs.Ytklbefdpfhidkaa.fnExactSupportedDepth
open Go.Joins Go.ChangeShapes Go.WideShapes Go.ChangeAt Go.RowKit Go.Deep
set_option linter.unusedVariables false

/-! ### The walk: the Go text returns true, and nothing that was there has turned. -/
set_option maxRecDepth 20000 in
set_option maxHeartbeats 3200000 in
theorem walk (A : Option Addr) (n c : Nat) (L : List SD) (x y r : Int) (w : World) (hs : Sds w w.heap.size A n L) (hm : n ≤ maxLen) :
    Calls Try.prog 9 #[.slice A n c, .agg #[.int .i64 x, .int .i64 y], .int .i64 r] w fun e w' => e = .returned (.bool true) ∧ Below w.heap.size w w' := by
  by_cases h0 : n ≤ 1048576
  · obtain rfl := hs.1
    have HS := Lib.hid hs
    have HSZ := Lib.hid h0
    have hle : 0 ≤ (1048576 : Int) - L.length := by omega
    clear hs h0
    obtain ⟨W0, hW0⟩ : ∃ W0, W0 = w.alloc (.cells #[.int .i64 x, .int .i64 y] 47) := ⟨_, rfl⟩
    have HX0 : Hid (Below w.heap.size w W0 ∧ Has W0 w.heap.size [.int .i64 x, .int .i64 y]) := by rw [hW0]; exact box1 (Below.refl _ _)
    have HE := Lib.hid hW0
    clear hW0
    have HBx := Lib.hid HX0.out.1
    have HXx := Lib.hid HX0.out.2
    go_enter Try.func9, Try.ntmps9
    go_wp2_with fail
    rw [← HE.out]
    refine (szS_pos A _ c _ _ (by omega) (by omega)).mono ?_
    rintro e w1 ⟨rfl, rfl⟩
    have b0 := HXx.out.at_ 0 _ rfl
    have b1 := HXx.out.at_ 1 _ rfl
    go_wp2_with fail
    have lc0 := lcell b0
    have lc1 := lcell b1
    refine region_reads (W := W0) 10 8 [0, 2, 4] (by kernel_rfl) (by kernel_rfl) rfl (Below.refl _ _) (fun d _ _ _ _ h => by cases d <;> exact h) ?_
    simp only [picks, List.getElem?_cons_succ, List.getElem?_cons_zero]
    repeat (go_big_quiet_step (fail))
    refine wpQuiet_nil ?_
    intro W3 hW1
    have hb : Below W0.heap.size W0 W3 := by obtain ⟨x, rfl⟩ := hW1; exact x.below
    have HL0 := Lib.hid hb
    have HB2 := Lib.hid (bthen HBx.out hb HBx.out.size)
    have HX_2 := Lib.hid (HXx.out.next hb)
    clear hW1 lc0 lc1 b0 b1 hb
    refine wpAnyN_one (i := 1) (by kernel_rfl) ?_
    refine wpOp_step rfl (fun K hK => ?_)
    rw [if_pos (by rfl)]
    go_simp
    refine (copySs_any A _ c L _ (sds_at HS.out HB2.out) HSZ.out).mono ?_
    rintro e w2 ⟨ga, rfl, hF, hb⟩
    have HL1 := Lib.hid (bthen HL0.out hb HL0.out.size)
    have HB3 := Lib.hid (bthen HB2.out hb HB2.out.size)
    have HX_3 := Lib.hid (HX_2.out.next hb)
    have HFa := Lib.hid (sds_of_fill hF rfl)
    clear hF
    refine hK _ _ ⟨⟨⟨_, HL1.out⟩, rfl⟩, ?_⟩
    clear hK K hb
    refine wpAnyN_one (i := 3) (by kernel_rfl) ?_
    refine wpOp_step rfl (fun K hK => ?_)
    rw [if_pos (by rfl)]
    go_simp
    refine (toSpotS_any x y _).mono ?_
    rintro e w2s ⟨rfl, hb⟩
    have HL2 := Lib.hid (bthen HL1.out hb HL1.out.size)
    have HB4 := Lib.hid (bthen HB3.out hb HB3.out.size)
    have HFa_4 := Lib.hid (sds_at HFa.out hb)
    have HX_4 := Lib.hid (HX_3.out.next hb)
    refine hK _ _ ⟨⟨⟨_, HL2.out⟩, rfl⟩, ?_⟩
    clear hK K hb
    refine wpAnyN_one (i := 5) (by kernel_rfl) ?_
    refine wpOp_step rfl (fun K hK => ?_)
    rw [if_pos (by rfl)]
    go_simp
    refine (sup_spec _ _ _ L x y r _ HFa_4.out hm).mono ?_
    rintro e w3 ⟨rfl, hb⟩
    have HL3 := Lib.hid (bthen HL2.out hb HL2.out.size)
    have HB5 := Lib.hid (bthen HB4.out hb HB4.out.size)
    have HFa_5 := Lib.hid (sds_at HFa_4.out hb)
    have HX_5 := Lib.hid (HX_4.out.next hb)
    refine hK _ _ ⟨⟨⟨_, HL3.out⟩, rfl⟩, ?_⟩
    clear hK K hb
    refine wpAnyN_rest [6, 7, 8, 9, 10] rfl (by kernel_rfl) rfl (by kernel_rfl) HL3.out ?_
    simp only [picks, List.getElem?_cons_succ, List.getElem?_cons_zero]
    repeat (go_big_quiet_step (fail))
    refine wpQuiet_nil ?_
    intro W6 hW1
    have hb : Below w3.heap.size w3 W6 := by obtain ⟨x, rfl⟩ := hW1; exact x.below
    have HB6 := Lib.hid (bthen HB5.out hb HB5.out.size)
    have HX_6 := Lib.hid (HX_5.out.next hb)
    clear hW1 hb
    go_wp2_with fail
    refine (copySs_any A _ c L _ (sds_at HS.out HB6.out) HSZ.out).mono ?_
    rintro e w4 ⟨gx, rfl, hF, hb⟩
    have HB7 := Lib.hid (bthen HB6.out hb HB6.out.size)
    have HX_7 := Lib.hid (HX_6.out.next hb)
    have HFx := Lib.hid (sds_of_fill hF rfl)
    clear hF hb
    have b0 := HX_7.out.at_ 0 _ rfl
    have b1 := HX_7.out.at_ 1 _ rfl
    go_wp2_with fail
    refine (toSpotS_any x y _).mono ?_
    rintro e w4s ⟨rfl, hb⟩
    have HB8 := Lib.hid (bthen HB7.out hb HB7.out.size)
    have HFx_8 := Lib.hid (sds_at HFx.out hb)
    have HX_8 := Lib.hid (HX_7.out.next hb)
    clear hb b0 b1
    go_wp2_with fail
    refine (sup_impl _ _ _ L x y r _ HFx_8.out hm).mono ?_
    rintro e w5 ⟨rfl, hb⟩
    have HB9 := Lib.hid (bthen HB8.out hb HB8.out.size)
    have HFx_9 := Lib.hid (sds_at HFx_8.out hb)
    have HX_9 := Lib.hid (HX_8.out.next hb)
    clear hb
    go_wp2_with fail
    refine (copySs_any A _ c L _ (sds_at HS.out HB9.out) HSZ.out).mono ?_
    rintro e w6 ⟨gy, rfl, hF, hb⟩
    have HB10 := Lib.hid (bthen HB9.out hb HB9.out.size)
    have HFx_10 := Lib.hid (sds_at HFx_9.out hb)
    have HX_10 := Lib.hid (HX_9.out.next hb)
    have HFy := Lib.hid (sds_of_fill hF rfl)
    clear hF hb
    go_wp2_with fail
    refine (eqSs_same _ _ _ _ _ L _ HFx_10.out HFy.out hm).mono ?_
    rintro e w7 ⟨rfl, hb⟩
    have HB11 := Lib.hid (bthen HB10.out hb HB10.out.size)
    have HX_11 := Lib.hid (HX_10.out.next hb)
    clear hb
    go_wp2_with fail
    go_ret
    exact ⟨rfl, HB11.out⟩
  · go_enter Try.func9, Try.ntmps9
    go_wp2_with fail
    refine (szS_neg A n c _ _ (by omega) (by omega) (by omega) hm).mono ?_
    rintro e w1 ⟨rfl, rfl⟩
    go_wp2_with fail
    go_ret
    exact ⟨rfl, (Below.refl _ _).alloc (Nat.le_refl _) _⟩

/-! ### The row's step. -/
set_option maxRecDepth 100000 in
theorem lifted (os : Os) (started : os.Started) (H : Type) (enc : TypeId × Value → H) :
    ReturnsInHanded {} Try.checked os 9 .any (Rows.fnExactSupportedDepthSpec.pre6 enc Try.prog Try.f9 Rows.fnExactSupportedDepthRow.domain false) (Rows.fnExactSupportedDepthSpec.post enc Try.prog Try.f9 false true false false) := by
  refine returnsInHanded_of_change (C := Try.checked) own started (by kernel_rfl) Try.func9
    (ChangeSpec.witness6 (enc := enc) (C := Try.checked) false ⟨#[], #[.slice none 0 0, .agg #[.int .i64 0, .int .i64 0], .int .i64 0], []⟩ 8 (by kernel_rfl) (by kernel_rfl) (by kernel_rfl) (by kernel_rfl)) ?_
  intro W base args ds gs before hval0 hW hcnd _
  have hval : ∀ (j : Nat) t v, Try.f9.params[j]? = some t → args[j]? = some v → Value.okWide Try.prog W .any base t v := hval0
  have hW' := hW
  obtain ⟨p, q, hA0, hV, rfl, hfz, hnd⟩ := hW
  have hA : DataW.TrodAll enc Try.prog W 0 (fun _ => true) true Try.f9.params.toList args.toList ds p := hA0
  rw [Try.params9] at hA hval
  obtain ⟨v0, vs0, d0, ds0, p0, q0, hargs, rfl, rfl, h0, r0⟩ := trodAll_cons hA
  obtain ⟨v1, vs1, d1, ds1, p1, q1, rfl, rfl, rfl, h1, r1⟩ := trodAll_cons r0
  obtain ⟨v2, vs2, d2, ds2, p2, q2, rfl, rfl, rfl, h2, r2⟩ := trodAll_cons r1
  obtain ⟨rfl, rfl, rfl⟩ := trodAll_nil r2
  obtain rfl : args = #[v0, v1, v2] := by cases args; simp_all
  obtain ⟨rfl, rfl⟩ := trodVars_none hV
  have k0 := h0
  have lt0 : ∀ x ∈ p0, x.block < W.heap.size := by obtain ⟨m, hm⟩ := k0; exact DataW.trod_lt m _ _ _ hm
  obtain ⟨A0, n0, c0, rfl⟩ := okWide_slice Try.underlying53 (hval 0 53 v0 rfl rfl)
  obtain ⟨m0, l0, w0⟩ := open_soundings h0
  have k1 := h1
  have lt1 : ∀ x ∈ p1, x.block < W.heap.size := by obtain ⟨m, hm⟩ := k1; exact DataW.trod_lt m _ _ _ hm
  obtain ⟨x1, y1, rfl⟩ := open_spotS (hval 1 47 v1 rfl rfl) h1
  have k2 := h2
  have lt2 : ∀ x ∈ p2, x.block < W.heap.size := by obtain ⟨m, hm⟩ := k2; exact DataW.trod_lt m _ _ _ hm
  obtain ⟨x2, rfl⟩ := open_num (hval 2 3 v2 rfl rfl) h2
  clear hA0 hval0
  refine (walk A0 n0 c0 l0 x1 y1 x2 W w0 m0).mono fun e W1 ⟨he, bel⟩ => ?_
  subst he
  exact ⟨_, rfl, _, _, _, [], _, [], hW', trodAll_mk1 (shut_bool Try.underlying4 _), (trodAll_cons_mk (Below.trod laidOut (by kernel_rfl) (of_decide_eq_true (by kernel_rfl)) k0 bel lt0) (trodAll_cons_mk (Below.trod laidOut (by kernel_rfl) (of_decide_eq_true (by kernel_rfl)) k1 bel lt1) (trodAll_cons_mk (Below.trod laidOut (by kernel_rfl) (of_decide_eq_true (by kernel_rfl)) k2 bel lt2) trodAll_mk0))), rfl, bel.frame _, fun h => by cases h⟩

/-- The statement. -/
theorem proved : Rows.FnExactSupportedDepthSaid :=
  OpenClaim.holds_of_wide 9 Try.f9 rfl rfl rfl rfl rfl rfl rfl ⟨rfl, rfl, rfl, rfl, rfl⟩ rfl rfl rfl rfl rfl (by kernel_rfl) Try.func9 (by kernel_rfl)
    (of_decide_eq_true (by kernel_rfl)) (by unfold Func.isWrapper; first | (rw [if_pos (by decide +kernel)]; kernel_rfl) | (rw [if_neg (by decide +kernel)]; exact ⟨rfl, rfl⟩))
    (fun os started H enc _ => lifted os started H enc)
#print axioms proved
end Go.Proofs.Ytklbefdpfhidkaa.fnExactSupportedDepth
