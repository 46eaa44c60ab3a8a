/-
  Proved here: for every code the law laws.FnSpeeds returns true (a mean speed is between the least and the greatest, casts that are within a bound are so both ways, and the cast at a time is not behind it), and the argument reads afterwards as before.
  Conditions: none beyond the row's own.
-/
import Derived.Test.YtdmnkmdlochogabFs8
namespace Go.Proofs.Ytdmnkmdlochogab.fnSpeeds
open Go.Joins Go.ChangeShapes Go.WideShapes Go.ChangeAt Go.RowKit Go.Deep
set_option linter.unusedVariables false

/-! ### The walk: the Go text returns true, and nothing that was there has turned. -/
set_option maxRecDepth 20000 in
set_option maxHeartbeats 12800000 in
theorem walk (A : Option Addr) (n c : Nat) (w : World) (hm : n ≤ maxLen) (hr : CodeRow w.heap.size A n w) :
    Calls Try.prog 6 #[.slice A n c] w fun e w' => e = .returned (.bool true) ∧ Below w.heap.size w w' := by
  rcases hb0 : decide ((65536 : Int) < n) with _ | _
  rotate_left
  · have HV := Lib.hid hb0
    clear hb0
    go_enter Try.func6, Try.ntmps6
    go_wp2_with fail
    refine (rBig_any _ _ _ _ HV.out _).mono ?_
    rintro e w' ⟨rfl, rfl⟩
    go_wp2_with fail
    go_ret
    exact ⟨rfl, Below.refl _ _⟩
  have HV := Lib.hid hb0
  have HRW := Lib.hid hr
  clear hb0 hr
  have HB0 := Lib.hid (Below.refl w.heap.size w)
  go_enter Try.func6, Try.ntmps6
  go_wp2_with fail
  refine (rBig_any _ _ _ _ HV.out _).mono ?_
  rintro e w' ⟨rfl, rfl⟩
  go_wp2_with fail
  refine (draw_mean A n c _ (HRW.out.below HB0.out HB0.out.size)).mono ?_
  rintro e w1 ⟨ida, tma, spa, Ra, ma, ca, la, da, rfl, hl, hm9, hO, hb⟩
  subst hl
  have hma : la.length ≤ maxLen := by unfold maxLen; omega
  have h9a := hm9
  have HBx2 := Lib.hid (bthen HB0.out hb HB0.out.size)
  clear hb
  have HSa := Lib.hid (hO.1.spots (Nat.le_refl _))
  clear hO hm9
  obtain ⟨W3, hW⟩ : ∃ W, W = w1.alloc (.cells #[.int .i64 ida, .int .i64 tma, .int .i64 spa.1, .int .i64 spa.2, .slice Ra la.length ca] 64) := ⟨_, rfl⟩
  have HXa : Hid (Has W3 w1.heap.size [.int .i64 ida, .int .i64 tma, .int .i64 spa.1, .int .i64 spa.2, .slice Ra la.length ca]) := by rw [hW]; exact Lib.hid (by simpa using Has.new w1 #[.int .i64 ida, .int .i64 tma, .int .i64 spa.1, .int .i64 spa.2, .slice Ra la.length ca] 64)
  have hb : Below w1.heap.size w1 W3 := by rw [hW]; exact (Below.refl _ _).alloc (Nat.le_refl _) _
  have HE := Lib.hid hW
  clear hW
  have HBx4 := Lib.hid (bthen HBx2.out hb HBx2.out.size)
  have HSa_4 := Lib.hid (spots_at HSa.out hb)
  clear hb
  go_upto_region 4 with fail
  rw [← HE.out]
  clear HE
  have hbd := mean_bd (v := ⟨ida, tma, spa.1, spa.2, la⟩) (d := da)
  dsimp only at hbd
  obtain ⟨Ka, hK⟩ : ∃ K, oneK ⟨ida, tma, spa.1, spa.2, la⟩ da 1 20000 = K := ⟨_, rfl⟩
  obtain ⟨Na, hN⟩ : ∃ V, oneV (oneK ⟨ida, tma, spa.1, spa.2, la⟩ da 1 20000) (mnN la da) = V := ⟨_, rfl⟩
  obtain ⟨Da, hDn⟩ : ∃ V, oneV (oneK ⟨ida, tma, spa.1, spa.2, la⟩ da 1 20000) (mnD la da) = V := ⟨_, rfl⟩
  rw [hN, hDn] at hbd
  have HO := Lib.hid (And.intro hN (And.intro hDn hK))
  clear hN hDn hK
  obtain ⟨⟨hd0, hd1⟩, hd2, hd3⟩ := hbd
  have qa0 := HXa.out.at_ 0 _ rfl
  have qa1 := HXa.out.at_ 1 _ rfl
  have qa2 := HXa.out.at_ 2 _ rfl
  have qa3 := HXa.out.at_ 3 _ rfl
  have qa4 := HXa.out.at_ 4 _ rfl
  go_wp2_with fail
  refine (mean_impl _ _ _ _ da _ _ _ la _ HSa_4.out hma).mono ?_
  rintro e w5 ⟨he, hb⟩
  rw [HO.out.1, HO.out.2.1, HO.out.2.2] at he
  subst he
  clear qa0 qa1 qa2 qa3 qa4
  have HBx6 := Lib.hid (bthen HBx4.out hb HBx4.out.size)
  have HSa_6 := Lib.hid (spots_at HSa_4.out hb)
  have HXa_6 := Lib.hid (HXa.out.next hb)
  clear hb
  have qa0 := HXa_6.out.at_ 0 _ rfl
  have qa1 := HXa_6.out.at_ 1 _ rfl
  have qa2 := HXa_6.out.at_ 2 _ rfl
  have qa3 := HXa_6.out.at_ 3 _ rfl
  have qa4 := HXa_6.out.at_ 4 _ rfl
  go_wp2_with fail
  refine (mean_spec _ _ _ _ da _ _ _ la _ HSa_6.out hma).mono ?_
  rintro e w7 ⟨he, hb⟩
  rw [HO.out.1, HO.out.2.1, HO.out.2.2] at he
  subst he
  clear qa0 qa1 qa2 qa3 qa4
  have HBx8 := Lib.hid (bthen HBx6.out hb HBx6.out.size)
  have HSa_8 := Lib.hid (spots_at HSa_6.out hb)
  have HXa_8 := Lib.hid (HXa_6.out.next hb)
  clear hb
  have e1 : decide (Na < 14000 * Da) = false := decide_eq_false (by omega)
  have e2 : decide (16000 * Da < Na) = false := decide_eq_false (by omega)
  clear hd2 hd3
  go_upto_region 6 with fail
  rcases Ka with _ | _
  · go_upto_if 83 with fail
    rename (Act → World → Prop) => KK
    rename (∀ (a : Act) (w : World), _ → KK a w) => aK
    have HKK := Lib.hid aK
    clear aK
    go_wp2_with fail
    exact HKK.out _ _ (tail8 rfl A n c w _ HRW.out HBx8.out _ _ _ _ _ _ _ _ _ _ _ _ _ _ _ _ _ _ _ _ _ _ _ _ _ _ _ _ _ _ _ _ _ _ _ _ _ _ _ _ _ _ _ _ _ _ _ _ _ _ _ _ _ _ _ _ _ _ _ _ _ _ _ _ _ _ _ _ _ _ _ _ _ _ _ _ _ _ _ _ _ _ _ _ _ _ _ _ _ _ _ _ _ _ _ _ _ _ _ _ _ _ _ _ _ _ _ _ _ _ _ _ _ _ _ _ _ _ _ _ _ _ _ _ _ _ _ _ _ _ _ _ _ _ _ _ _ _ _ _ _ _ _ _ _ _ _ _ _ _ _ _ _ _ _ _ _ _ _ _ _ _ _ _ _ _ _ _ _ _ _ _ _ _ _ _ _ _ _ _ _ _ _ _ _ _ _ _ _ _ _ _ _ _ _ _ _ _ _ _ _ _ _ _ _ _ _ _ _ _ _ _ _ _ _ _ _ _ _ _ _ _ _ _ _ _ _ _ _ _ _ _ _ _ _ _ _ _ _ _ _ _ _ _ _ _ _ _ _ _ _)
  · go_upto_if 83 with fail
    rename (Act → World → Prop) => KK
    rename (∀ (a : Act) (w : World), _ → KK a w) => aK
    have HKK := Lib.hid aK
    clear aK
    go_wp2_with fail
    exact HKK.out _ _ (tail8 rfl A n c w _ HRW.out HBx8.out _ _ _ _ _ _ _ _ _ _ _ _ _ _ _ _ _ _ _ _ _ _ _ _ _ _ _ _ _ _ _ _ _ _ _ _ _ _ _ _ _ _ _ _ _ _ _ _ _ _ _ _ _ _ _ _ _ _ _ _ _ _ _ _ _ _ _ _ _ _ _ _ _ _ _ _ _ _ _ _ _ _ _ _ _ _ _ _ _ _ _ _ _ _ _ _ _ _ _ _ _ _ _ _ _ _ _ _ _ _ _ _ _ _ _ _ _ _ _ _ _ _ _ _ _ _ _ _ _ _ _ _ _ _ _ _ _ _ _ _ _ _ _ _ _ _ _ _ _ _ _ _ _ _ _ _ _ _ _ _ _ _ _ _ _ _ _ _ _ _ _ _ _ _ _ _ _ _ _ _ _ _ _ _ _ _ _ _ _ _ _ _ _ _ _ _ _ _ _ _ _ _ _ _ _ _ _ _ _ _ _ _ _ _ _ _ _ _ _ _ _ _ _ _ _ _ _ _ _ _ _ _ _ _ _ _ _ _ _ _ _ _ _ _ _ _ _ _ _ _ _)
set_option maxRecDepth 100000 in
theorem lifted (os : Os) (started : os.Started) (H : Type) (enc : TypeId × Value → H) :
    ReturnsInHanded {} Try.checked os 6 .any (Rows.fnSpeedsSpec.pre6 enc Try.prog Try.f6 Rows.fnSpeedsRow.domain false) (Rows.fnSpeedsSpec.post enc Try.prog Try.f6 false true false false) := by
  refine returnsInHanded_of_change (C := Try.checked) own started (by kernel_rfl) Try.func6
    (ChangeSpec.witness6 (enc := enc) (C := Try.checked) false ⟨#[], #[.slice none 0 0], []⟩ 8 (by kernel_rfl) (by kernel_rfl) (by kernel_rfl) (by kernel_rfl)) ?_
  intro W base args ds gs before hval0 hW hcnd _
  have hval : ∀ (j : Nat) t v, Try.f6.params[j]? = some t → args[j]? = some v → Value.okWide Try.prog W .any base t v := hval0
  have hW' := hW
  obtain ⟨p, q, hA0, hV, rfl, hfz, hnd⟩ := hW
  have hA : DataW.TrodAll enc Try.prog W 0 (fun _ => true) true Try.f6.params.toList args.toList ds p := hA0
  rw [Try.params6] at hA hval
  obtain ⟨v0, vs0, d0, ds0, p0, q0, hargs, rfl, rfl, h0, r0⟩ := trodAll_cons hA
  obtain ⟨rfl, rfl, rfl⟩ := trodAll_nil r0
  obtain rfl : args = #[v0] := by cases args; simp_all
  obtain ⟨rfl, rfl⟩ := trodVars_none hV
  have k0 := h0
  have lt0 : ∀ x ∈ p0, x.block < W.heap.size := by obtain ⟨m, hm⟩ := k0; exact DataW.trod_lt m _ _ _ hm
  obtain ⟨A0, n0, c0, rfl⟩ := okWide_slice Try.underlying22 (hval 0 22 v0 rfl rfl)
  obtain ⟨m0, w0⟩ := open_code h0
  clear hA0 hval0
  refine (walk A0 n0 c0 W m0 w0).mono fun e W1 ⟨he, bel⟩ => ?_
  subst he
  exact ⟨_, rfl, _, _, _, [], _, [], hW', trodAll_mk1 (shut_bool Try.underlying4 _), (trodAll_cons_mk (Below.trod laidOut (by kernel_rfl) (of_decide_eq_true (by kernel_rfl)) k0 bel lt0) trodAll_mk0), rfl, bel.frame _, fun h => by cases h⟩

/-- The statement. -/
theorem proved : Rows.FnSpeedsSaid :=
  OpenClaim.holds_of_wide 6 Try.f6 rfl rfl rfl rfl rfl rfl rfl ⟨rfl, rfl, rfl, rfl, rfl⟩ rfl rfl rfl rfl rfl (by kernel_rfl) Try.func6 (by kernel_rfl)
    (of_decide_eq_true (by kernel_rfl)) (by unfold Func.isWrapper; first | (rw [if_pos (by decide +kernel)]; kernel_rfl) | (rw [if_neg (by decide +kernel)]; exact ⟨rfl, rfl⟩))
    (fun os started H enc _ => lifted os started H enc)
#print axioms proved
end Go.Proofs.Ytdmnkmdlochogab.fnSpeeds
