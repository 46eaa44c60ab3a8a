/-
  Proved here: for every code the law laws.FnSupport returns true (a supported depth is not greater than that of any sounding within the radius, the shoalest in a box and the mean answer as the model, and the mean of the lowered ones is the lowered mean), and the argument reads afterwards as before.
  Conditions: none beyond the row's own.
-/
import Derived.Test.YtdmnkmdlochogaaSu14
namespace Go.Proofs.Ytdmnkmdlochogaa.fnSupport
open Go.Joins Go.ChangeShapes Go.WideShapes Go.ChangeAt Go.RowKit Go.Deep
set_option linter.unusedVariables false

/-! ### The walk: the Go text returns true, and nothing that was there has turned. -/
set_option maxRecDepth 20000 in
set_option maxHeartbeats 12800000 in
theorem walk (A : Option Addr) (n c : Nat) (w : World) (hm : n ≤ maxLen) (hr : CodeRow w.heap.size A n w) :
    Calls Try.prog 6 #[.slice A n c] w fun e w' => e = .returned (.bool true) ∧ Below w.heap.size w w' := by
  rcases hb0 : decide ((65536 : Int) < n) with _ | _
  rotate_left
  · have HV := Lib.hid hb0
    clear hb0
    go_enter Try.func6, Try.ntmps6
    go_wp2_with fail
    refine (vBig_any _ _ _ _ HV.out _).mono ?_
    rintro e w' ⟨rfl, rfl⟩
    go_wp2_with fail
    go_ret
    exact ⟨rfl, Below.refl _ _⟩
  have HV := Lib.hid hb0
  have HRW := Lib.hid hr
  clear hb0 hr
  have HB0 := Lib.hid (Below.refl w.heap.size w)
  go_enter Try.func6, Try.ntmps6
  go_wp2_with fail
  refine (vBig_any _ _ _ _ HV.out _).mono ?_
  rintro e w' ⟨rfl, rfl⟩
  go_wp2_with fail
  refine (draw_sup A n c _ (HRW.out.below HB0.out HB0.out.size)).mono ?_
  rintro e w1 ⟨L, gb, cap, x, y, r, rfl, hl, hI, hcap, hS, hb⟩
  have HS1 := Lib.hid hS
  have HB1 := Lib.hid (bthen HB0.out hb HB0.out.size)
  have hmL : L.length ≤ maxLen := by unfold maxLen; omega
  clear hS hb hI
  obtain ⟨V, HV1⟩ : ∃ V, Hid (sdV L x y r = V) := ⟨_, Lib.hid rfl⟩
  obtain ⟨K, HK⟩ : ∃ K, Hid (sdK L x y r = K) := ⟨_, Lib.hid rfl⟩
  obtain ⟨W1, hW1⟩ : ∃ W1, W1 = w1.alloc (.cells #[.int .i64 x, .int .i64 y] 69) := ⟨_, rfl⟩
  have HX : Hid (Below w1.heap.size w1 W1 ∧ Has W1 w1.heap.size [.int .i64 x, .int .i64 y]) := by rw [hW1]; exact box1 (Below.refl _ _)
  have HE := Lib.hid hW1
  have HB2 := Lib.hid (bthen HB1.out HX.out.1 HB1.out.size)
  have HS2 := Lib.hid (sds_at HS1.out HX.out.1)
  clear hW1
  go_upto_region 4 with fail
  rw [← HE.out]
  clear HE
  have e0 := HX.out.2.at_ 0 _ rfl
  have e1 := HX.out.2.at_ 1 _ rfl
  go_wp2_with fail
  refine (sup_impl _ _ _ L x y r _ HS2.out hmL).mono ?_
  unfold NbPost
  rw [HV1.out, HK.out]
  rintro e w2 ⟨rfl, hb⟩
  have HB3 := Lib.hid (bthen HB2.out hb HB2.out.size)
  have HS3 := Lib.hid (sds_at HS2.out hb)
  have HX3 := Lib.hid (HX.out.2.next hb)
  clear hb e0 e1
  have e0 := HX3.out.at_ 0 _ rfl
  have e1 := HX3.out.at_ 1 _ rfl
  go_wp2_with fail
  refine (sup_spec _ _ _ L x y r _ HS3.out hmL).mono ?_
  unfold NbPost
  rw [HV1.out, HK.out]
  rintro e W3 ⟨rfl, hb⟩
  have HB4 := Lib.hid (bthen HB3.out hb HB3.out.size)
  have HS4 := Lib.hid (sds_at HS3.out hb)
  have HX4 := Lib.hid (HX3.out.next hb)
  clear hb e0 e1
  go_wp2_with fail
  rename (Act → World → Prop) => KK
  rename (∀ (a : Act) (w : World), _ → KK a w) => aK
  have HKK := Lib.hid aK
  clear aK
  go_loopw [10] (fun i wr => ∃ k : Nat, k ≤ L.length ∧ i = .int .i64 k ∧ Hid (Below W3.heap.size W3 wr)) (fun i _ => L.length - (intOf i).toNat)
  case atStart => exact ⟨0, Nat.zero_le _, rfl, Lib.hid (Below.refl _ _)⟩
  case round =>
    obtain ⟨k, hk, rfl, hB⟩ := hrel
    have HBT := Lib.hid (bthen HB4.out hB.out HB4.out.size)
    obtain ⟨W0, rfl⟩ : ∃ W : World, W = wr := ⟨_, rfl⟩
    rcases K with _ | _
    · by_cases hlt : k < L.length
      · go_wp2_with fail
        exact HKK.out _ _ (tailS14 rfl A n c w _ HRW.out HBT.out _ _ _ _ _ _ _ _ _ _ _ _ _ _ _ _ _ _ _ _ _ _ _ _ _ _ _ _ _ _ _ _ _ _ _ _ _ _ _ _ _ _ _ _ _ _ _ _ _ _ _ _ _ _ _ _ _ _ _ _ _ _ _ _ _ _ _ _ _ _ _ _ _ _ _ _ _ _ _ _ _ _ _ _ _ _ _ _ _ _ _ _ _ _ _ _ _ _ _ _ _ _ _ _ _ _ _ _ _ _ _ _ _ _ _ _ _ _ _ _ _ _ _ _ _ _ _ _ _ _ _ _ _ _ _ _ _ _ _ _ _ _ _ _ _ _ _ _ _ _ _ _ _ _ _ _ _ _ _ _ _ _ _ _ _ _ _ _ _ _ _ _ _ _ _ _ _ _ _ _ _ _ _ _ _ _ _ _ _ _ _ _ _ _ _ _ _ _ _ _ _ _ _ _ _ _ _ _ _ _ _ _ _ _ _ _ _ _ _ _ _ _ _ _ _ _ _)
      · go_wp2_with fail
        exact HKK.out _ _ (tailS14 rfl A n c w _ HRW.out HBT.out _ _ _ _ _ _ _ _ _ _ _ _ _ _ _ _ _ _ _ _ _ _ _ _ _ _ _ _ _ _ _ _ _ _ _ _ _ _ _ _ _ _ _ _ _ _ _ _ _ _ _ _ _ _ _ _ _ _ _ _ _ _ _ _ _ _ _ _ _ _ _ _ _ _ _ _ _ _ _ _ _ _ _ _ _ _ _ _ _ _ _ _ _ _ _ _ _ _ _ _ _ _ _ _ _ _ _ _ _ _ _ _ _ _ _ _ _ _ _ _ _ _ _ _ _ _ _ _ _ _ _ _ _ _ _ _ _ _ _ _ _ _ _ _ _ _ _ _ _ _ _ _ _ _ _ _ _ _ _ _ _ _ _ _ _ _ _ _ _ _ _ _ _ _ _ _ _ _ _ _ _ _ _ _ _ _ _ _ _ _ _ _ _ _ _ _ _ _ _ _ _ _ _ _ _ _ _ _ _ _ _ _ _ _ _ _ _ _ _ _ _ _ _ _ _ _ _)
    by_cases hlt : k < L.length
    rotate_left
    · go_wp2_with fail
      exact HKK.out _ _ (tailS14 rfl A n c w _ HRW.out HBT.out _ _ _ _ _ _ _ _ _ _ _ _ _ _ _ _ _ _ _ _ _ _ _ _ _ _ _ _ _ _ _ _ _ _ _ _ _ _ _ _ _ _ _ _ _ _ _ _ _ _ _ _ _ _ _ _ _ _ _ _ _ _ _ _ _ _ _ _ _ _ _ _ _ _ _ _ _ _ _ _ _ _ _ _ _ _ _ _ _ _ _ _ _ _ _ _ _ _ _ _ _ _ _ _ _ _ _ _ _ _ _ _ _ _ _ _ _ _ _ _ _ _ _ _ _ _ _ _ _ _ _ _ _ _ _ _ _ _ _ _ _ _ _ _ _ _ _ _ _ _ _ _ _ _ _ _ _ _ _ _ _ _ _ _ _ _ _ _ _ _ _ _ _ _ _ _ _ _ _ _ _ _ _ _ _ _ _ _ _ _ _ _ _ _ _ _ _ _ _ _ _ _ _ _ _ _ _ _ _ _ _ _ _ _ _ _ _ _ _ _ _ _ _ _ _ _ _)
    obtain ⟨b', o', v, hA', hbl, hL, c0, c1, c2, c3, c4⟩ := (sds_at HS4.out hB.out).2 k hlt
    obtain ⟨rfl, rfl⟩ : gb = b' ∧ 0 = o' := by injection hA' with h; injection h with h h'; exact ⟨h, h'⟩
    simp only [Nat.zero_add] at c0 c1 c2 c3 c4
    clear hA'
    obtain ⟨q1, q2, q3, _⟩ := sdK_is HK.out
    have hv := (good8_of q1).one k hlt
    rw [sdAt_at hL] at hv
    have hgv := sd_grid hv
    have hxy := spS_yes q2
    have hr := inB_yes q3
    have hsk : sqK v.x v.y x y = true := by unfold sqK; rw [sd_spot hv, q2]; rfl
    obtain ⟨d, hd⟩ : ∃ d, sqI v.x v.y x y = d := ⟨_, rfl⟩
    have hsn : sqN v.x v.y x y = d := by unfold sqN; rw [hsk, if_pos rfl]; exact hd
    have HSQ : Hid (∀ W : World, Calls Try.prog 63 #[.agg #[.int .i64 v.x, .int .i64 v.y], .agg #[.int .i64 x, .int .i64 y]] W fun e w' => e = .returned (.tuple #[.int .i64 d, .bool true]) ∧ Below W.heap.size W w') := Lib.hid fun W => by
      have := sqb_impl v.x v.y x y W
      unfold SqbPost at this
      rwa [hsn, hsk] at this
    have hmb := sq_rad r hr.1 hr.2
    obtain ⟨m, hm2⟩ : ∃ m, r * r = m := ⟨_, rfl⟩
    have hlow : d ≤ m → V ≤ v.dep - v.dbt := fun h => by
      have := sup_low HK.out hL (by rw [hd, hm2]; exact h)
      rw [HV1.out] at this
      exact this
    rw [hm2] at hmb
    have hw : IntKind.i64.wrap (r * r) = m := by rw [hm2]; exact IntWalk.i64_in _ (by omega)
    obtain ⟨_, _, _, ⟨p1, p2⟩, ⟨p3, p4⟩⟩ := sdB_parts hv
    have hws : IntKind.i64.wrap (v.dep - v.dbt) = v.dep - v.dbt := IntWalk.i64_in _ (by omega)
    have HX5 := Lib.hid (HX4.out.next hB.out)
    have e0 := HX5.out.at_ 0 _ rfl
    have e1 := HX5.out.at_ 1 _ rfl
    clear hL hv hgv hxy hr hsk hd hsn hm2 q1 q2 q3 hmb
    go_wp2_with fail
    have lc0 := lcell (c0)
    have lc1 := lcell (c1)
    have lc2 := lcell (c2)
    have lc3 := lcell (c3)
    have lc4 := lcell (c4)
    have lc5 := lcell (e0)
    have lc6 := lcell (e1)
    refine region_later (W := W0) (by kernel_rfl) (by kernel_rfl) (Below.refl _ _) ?_
    repeat (go_big_quiet_step (((go_at_call 63; exact later_call (HSQ.out _)))))
    refine wpQuiet_nil ?_
    intro W5 hW1
    have HL : Hid (Below W0.heap.size W0 W5) := by obtain ⟨x, rfl⟩ := hW1; exact Lib.hid x.below
    clear hW1 lc0 lc1 lc2 lc3 lc4 lc5 lc6
    have HB6 := Lib.hid (bthen hB.out HL.out hB.out.size)
    have g0 := cell_next HL.out c0
    have g1 := cell_next HL.out c1
    have g2 := cell_next HL.out c2
    have g3 := cell_next HL.out c3
    have g4 := cell_next HL.out c4
    have HL5 := HL
    clear c0 c1 c2 c3 c4 e0 e1 HL
    go_wp2_with fail
    by_cases hle : d ≤ m
    · have hd1 : decide (d ≤ m) = true := decide_eq_true hle
      have hd2 : decide (v.dep - v.dbt < V) = false := decide_eq_false (by have := hlow hle; omega)
      clear hle hlow
      have lc0 := lcell (g0)
      have lc1 := lcell (g1)
      have lc2 := lcell (g2)
      have lc3 := lcell (g3)
      have lc4 := lcell (g4)
      refine region_later (W := W5) (by kernel_rfl) (by kernel_rfl) (Below.refl _ _) ?_
      repeat (go_big_quiet_step (fail))
      refine wpQuiet_nil ?_
      intro W6 hW1
      have HL : Hid (Below W5.heap.size W5 W6) := by obtain ⟨x, rfl⟩ := hW1; exact Lib.hid x.below
      clear hW1 lc0 lc1 lc2 lc3 lc4
      have HB7 := Lib.hid (bthen HB6.out HL.out HB6.out.size)
      clear g0 g1 g2 g3 g4
      go_wp2_with fail
      go_roundw
      case rel => exact ⟨k + 1, by omega, by go_num, HB7⟩
      case measure => simp [intOf]; omega
    · have hd1 : decide (d ≤ m) = false := decide_eq_false hle
      clear hle hlow
      have lc0 := lcell (g0)
      have lc1 := lcell (g1)
      have lc2 := lcell (g2)
      have lc3 := lcell (g3)
      have lc4 := lcell (g4)
      refine region_later (W := W5) (by kernel_rfl) (by kernel_rfl) (Below.refl _ _) ?_
      repeat (go_big_quiet_step (fail))
      refine wpQuiet_nil ?_
      intro W6 hW1
      have HL : Hid (Below W5.heap.size W5 W6) := by obtain ⟨x, rfl⟩ := hW1; exact Lib.hid x.below
      clear hW1 lc0 lc1 lc2 lc3 lc4
      have HB7 := Lib.hid (bthen HB6.out HL.out HB6.out.size)
      clear g0 g1 g2 g3 g4
      go_wp2_with fail
      go_roundw
      case rel => exact ⟨k + 1, by omega, by go_num, HB7⟩
      case measure => simp [intOf]; omega
set_option maxRecDepth 100000 in
theorem lifted (os : Os) (started : os.Started) (H : Type) (enc : TypeId × Value → H) :
    ReturnsInHanded {} Try.checked os 6 .any (Rows.fnSupportSpec.pre6 enc Try.prog Try.f6 Rows.fnSupportRow.domain false) (Rows.fnSupportSpec.post enc Try.prog Try.f6 false true false false) := by
  refine returnsInHanded_of_change (C := Try.checked) own started (by kernel_rfl) Try.func6
    (ChangeSpec.witness6 (enc := enc) (C := Try.checked) false ⟨#[], #[.slice none 0 0], []⟩ 8 (by kernel_rfl) (by kernel_rfl) (by kernel_rfl) (by kernel_rfl)) ?_
  intro W base args ds gs before hval0 hW hcnd _
  have hval : ∀ (j : Nat) t v, Try.f6.params[j]? = some t → args[j]? = some v → Value.okWide Try.prog W .any base t v := hval0
  have hW' := hW
  obtain ⟨p, q, hA0, hV, rfl, hfz, hnd⟩ := hW
  have hA : DataW.TrodAll enc Try.prog W 0 (fun _ => true) true Try.f6.params.toList args.toList ds p := hA0
  rw [Try.params6] at hA hval
  obtain ⟨v0, vs0, d0, ds0, p0, q0, hargs, rfl, rfl, h0, r0⟩ := trodAll_cons hA
  obtain ⟨rfl, rfl, rfl⟩ := trodAll_nil r0
  obtain rfl : args = #[v0] := by cases args; simp_all
  obtain ⟨rfl, rfl⟩ := trodVars_none hV
  have k0 := h0
  have lt0 : ∀ x ∈ p0, x.block < W.heap.size := by obtain ⟨m, hm⟩ := k0; exact DataW.trod_lt m _ _ _ hm
  obtain ⟨A0, n0, c0, rfl⟩ := okWide_slice Try.underlying22 (hval 0 22 v0 rfl rfl)
  obtain ⟨m0, w0⟩ := open_code h0
  clear hA0 hval0
  refine (walk A0 n0 c0 W m0 w0).mono fun e W1 ⟨he, bel⟩ => ?_
  subst he
  exact ⟨_, rfl, _, _, _, [], _, [], hW', trodAll_mk1 (shut_bool Try.underlying4 _), (trodAll_cons_mk (Below.trod laidOut (by kernel_rfl) (of_decide_eq_true (by kernel_rfl)) k0 bel lt0) trodAll_mk0), rfl, bel.frame _, fun h => by cases h⟩

/-- The statement. -/
theorem proved : Rows.FnSupportSaid :=
  OpenClaim.holds_of_wide 6 Try.f6 rfl rfl rfl rfl rfl rfl rfl ⟨rfl, rfl, rfl, rfl, rfl⟩ rfl rfl rfl rfl rfl (by kernel_rfl) Try.func6 (by kernel_rfl)
    (of_decide_eq_true (by kernel_rfl)) (by unfold Func.isWrapper; first | (rw [if_pos (by decide +kernel)]; kernel_rfl) | (rw [if_neg (by decide +kernel)]; exact ⟨rfl, rfl⟩))
    (fun os started H enc _ => lifted os started H enc)
#print axioms proved
end Go.Proofs.Ytdmnkmdlochogaa.fnSupport
