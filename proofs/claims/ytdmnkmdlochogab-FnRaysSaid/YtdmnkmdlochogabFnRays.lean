/-
  Proved here: for every code the law laws.FnRays returns true (dividing a layer changes no run, and the slope for a run has this run), and the argument reads afterwards as before.
  Conditions: none beyond the row's own.
-/
import Derived.Test.YtdmnkmdlochogabYr14
namespace Go.Proofs.Ytdmnkmdlochogab.fnRays
open Go.Joins Go.ChangeShapes Go.WideShapes Go.ChangeAt Go.RowKit Go.Deep
set_option linter.unusedVariables false

/-! ### The walk: the Go text returns true, and nothing that was there has turned. -/
set_option maxRecDepth 20000 in
set_option maxHeartbeats 12800000 in
theorem walk (A : Option Addr) (n c : Nat) (w : World) (hm : n ≤ maxLen) (hr : CodeRow w.heap.size A n w) :
    Calls Try.prog 4 #[.slice A n c] w fun e w' => e = .returned (.bool true) ∧ Below w.heap.size w w' := by
  rcases hb0 : decide ((65536 : Int) < n) with _ | _
  rotate_left
  · have HV := Lib.hid hb0
    clear hb0
    go_enter Try.func4, Try.ntmps4
    go_wp2_with fail
    refine (vBig_any _ _ _ _ HV.out _).mono ?_
    rintro e w' ⟨rfl, rfl⟩
    go_wp2_with fail
    go_ret
    exact ⟨rfl, Below.refl _ _⟩
  have HV := Lib.hid hb0
  have HRW := Lib.hid hr
  clear hb0 hr
  have HB0 := Lib.hid (Below.refl w.heap.size w)
  go_enter Try.func4, Try.ntmps4
  go_wp2_with fail
  refine (vBig_any _ _ _ _ HV.out _).mono ?_
  rintro e w' ⟨rfl, rfl⟩
  go_wp2_with fail
  refine (draw_runTo A n c _ (HRW.out.below HB0.out HB0.out.size)).mono ?_
  rintro e w1 ⟨Ra, la, pa, x, y, z, rfl, hD⟩
  obtain ⟨⟨h6a, hma, hcpa, hcma⟩, hs, hb⟩ := hD
  have HBx2 := Lib.hid (bthen HB0.out hb HB0.out.size)
  clear hb
  have HSa := Lib.hid hs
  clear hs
  obtain ⟨Na, hN⟩ : ∃ N, qN (ruO la x y z) = N := ⟨_, rfl⟩
  obtain ⟨Da, hDD⟩ : ∃ D, qD (ruO la x y z) = D := ⟨_, rfl⟩
  obtain ⟨Ka, hK⟩ : ∃ K, qK (ruO la x y z) = K := ⟨_, rfl⟩
  have HOa := Lib.hid (And.intro hN (And.intro hDD hK))
  clear hN hDD hK
  go_wp2_with fail
  refine (runTo_impl _ _ pa la x y z _ HSa.out hma hcpa hcma).mono ?_
  rintro e w3 ⟨he, hb⟩
  rw [HOa.out.1, HOa.out.2.1, HOa.out.2.2] at he
  subst he
  have HBx4 := Lib.hid (bthen HBx2.out hb HBx2.out.size)
  have HSa_4 := Lib.hid (spots_at HSa.out hb)
  clear hb
  go_wp2_with fail
  refine (runTo_spec _ _ pa la x y z _ HSa_4.out hma hcpa hcma).mono ?_
  rintro e w5 ⟨he, hb⟩
  rw [HOa.out.1, HOa.out.2.1, HOa.out.2.2] at he
  subst he
  have HBx6 := Lib.hid (bthen HBx4.out hb HBx4.out.size)
  have HSa_6 := Lib.hid (spots_at HSa_4.out hb)
  clear hb
  obtain ⟨V, hV⟩ : ∃ V, strB la = V := ⟨_, rfl⟩
  have HVV := Lib.hid hV
  clear hV
  go_wp2_with fail
  refine (areS_impl _ _ pa la _ HSa_6.out hma).mono ?_
  rintro e w7 ⟨he, hb⟩
  rw [HVV.out] at he
  subst he
  have HBx8 := Lib.hid (bthen HBx6.out hb HBx6.out.size)
  have HSa_8 := Lib.hid (spots_at HSa_6.out hb)
  clear hb
  go_wp2_with fail
  refine (areS_spec _ _ pa la _ HSa_8.out hma).mono ?_
  rintro e w9 ⟨he, hb⟩
  rw [HVV.out] at he
  subst he
  have HBx10 := Lib.hid (bthen HBx8.out hb HBx8.out.size)
  have HSa_10 := Lib.hid (spots_at HSa_8.out hb)
  clear hb
  rcases Ka with _ | _
  · go_upto_if 99 with fail
    rename (Act → World → Prop) => KK
    rename (∀ (a : Act) (w : World), _ → KK a w) => aK
    have HKK := Lib.hid aK
    clear aK
    go_wp2_with fail
    exact HKK.out _ _ (tail14 rfl A n c w _ HRW.out HBx10.out _ _ _ _ _ _ _ _ _ _ _ _ _ _ _ _ _ _ _ _ _ _ _ _ _ _ _ _ _ _ _ _ _ _ _ _ _ _ _ _ _ _ _ _ _ _ _ _ _ _ _ _ _ _ _ _ _ _ _ _ _ _ _ _ _ _ _ _ _ _ _ _ _ _ _ _ _ _ _ _ _ _ _ _ _ _ _ _ _ _ _ _ _ _ _ _ _ _ _ _ _ _ _ _ _ _ _ _ _ _ _ _ _ _ _ _ _ _ _ _ _ _ _ _ _ _ _ _ _ _ _ _ _ _ _ _ _ _ _ _ _ _ _ _ _ _ _ _ _ _ _ _ _ _ _ _ _ _ _ _ _ _ _ _ _ _ _ _ _ _ _ _ _ _ _ _ _ _ _ _ _ _ _ _ _ _ _ _ _ _ _ _ _ _ _ _ _ _ _ _ _ _ _ _ _ _ _ _ _ _ _ _ _ _ _ _ _ _ _ _ _ _ _ _ _ _ _ _ _ _ _ _ _ _ _ _ _ _ _ _ _ _ _ _ _ _ _ _ _ _ _ _ _ _ _ _ _ _ _ _ _ _ _ _ _ _ _ _ _ _ _ _ _ _ _ _ _ _ _ _ _ _ _ _ _ _ _)
  obtain ⟨r, hr⟩ := some_qK (o := ruO la x y z) HOa.out.2.2
  obtain rfl : Na = r.num := by have := HOa.out.1; rw [hr] at this; exact this.symm
  obtain rfl : Da = (r.den : Int) := by have := HOa.out.2.1; rw [hr] at this; exact this.symm
  have HEr := Lib.hid hr
  clear hr
  go_upto_if 99 with fail
  rename (Act → World → Prop) => KK
  rename (∀ (a : Act) (w : World), _ → KK a w) => aK
  have HKK := Lib.hid aK
  clear aK
  obtain ⟨L, hL⟩ : ∃ L, ssR la z = L := ⟨_, rfl⟩
  obtain ⟨K, hK⟩ : ∃ K, ssK la z = K := ⟨_, rfl⟩
  have HLK := Lib.hid (And.intro hL hK)
  have hLn : L.length ≤ 1048576 := by rw [← hL]; exact ssR_len la z
  have hmq : L.length ≤ maxLen := by unfold maxLen; omega
  clear hL hK hLn
  go_wp2_with fail
  refine (split_impl _ _ pa la z _ HSa_10.out hma hcpa hcma).mono ?_
  rintro e w11 ⟨Aq, pq, he, hO, hb, hcap⟩
  rw [HLK.out.1, HLK.out.2] at he
  rw [HLK.out.1] at hO hcap
  subst he
  have HBx12 := Lib.hid (bthen HBx10.out hb HBx10.out.size)
  clear hb
  have HSq := Lib.hid (hO.spots (Nat.le_refl _))
  obtain ⟨hcpq, hcmq⟩ := hcap
  clear hO
  rcases K with _ | _
  · go_wp2_with fail
    exact HKK.out _ _ (tail14 rfl A n c w _ HRW.out HBx12.out _ _ _ _ _ _ _ _ _ _ _ _ _ _ _ _ _ _ _ _ _ _ _ _ _ _ _ _ _ _ _ _ _ _ _ _ _ _ _ _ _ _ _ _ _ _ _ _ _ _ _ _ _ _ _ _ _ _ _ _ _ _ _ _ _ _ _ _ _ _ _ _ _ _ _ _ _ _ _ _ _ _ _ _ _ _ _ _ _ _ _ _ _ _ _ _ _ _ _ _ _ _ _ _ _ _ _ _ _ _ _ _ _ _ _ _ _ _ _ _ _ _ _ _ _ _ _ _ _ _ _ _ _ _ _ _ _ _ _ _ _ _ _ _ _ _ _ _ _ _ _ _ _ _ _ _ _ _ _ _ _ _ _ _ _ _ _ _ _ _ _ _ _ _ _ _ _ _ _ _ _ _ _ _ _ _ _ _ _ _ _ _ _ _ _ _ _ _ _ _ _ _ _ _ _ _ _ _ _ _ _ _ _ _ _ _ _ _ _ _ _ _ _ _ _ _ _ _ _ _ _ _ _ _ _ _ _ _ _ _ _ _ _ _ _ _ _ _ _ _ _ _ _ _ _ _ _ _ _ _ _ _ _ _ _ _ _ _ _ _ _ _ _ _ _ _ _ _ _ _ _ _ _ _ _ _ _)
  · have hsp := ru_split HEr.out HLK.out.2
    rw [HLK.out.1] at hsp
    have HOz : Hid (qN (ruO L x y z) = r.num ∧ qD (ruO L x y z) = r.den ∧ qK (ruO L x y z) = true) := by rw [hsp]; exact Lib.hid ⟨rfl, rfl, rfl⟩
    clear hsp
    go_wp2_with fail
    refine (runTo_impl _ _ pq L x y z _ HSq.out hmq hcpq hcmq).mono ?_
    rintro e w13 ⟨he, hb⟩
    rw [HOz.out.1, HOz.out.2.1, HOz.out.2.2] at he
    subst he
    have HBx14 := Lib.hid (bthen HBx12.out hb HBx12.out.size)
    have HSq_14 := Lib.hid (spots_at HSq.out hb)
    clear hb
    go_wp2_with fail
    exact HKK.out _ _ (tail14 rfl A n c w _ HRW.out HBx14.out _ _ _ _ _ _ _ _ _ _ _ _ _ _ _ _ _ _ _ _ _ _ _ _ _ _ _ _ _ _ _ _ _ _ _ _ _ _ _ _ _ _ _ _ _ _ _ _ _ _ _ _ _ _ _ _ _ _ _ _ _ _ _ _ _ _ _ _ _ _ _ _ _ _ _ _ _ _ _ _ _ _ _ _ _ _ _ _ _ _ _ _ _ _ _ _ _ _ _ _ _ _ _ _ _ _ _ _ _ _ _ _ _ _ _ _ _ _ _ _ _ _ _ _ _ _ _ _ _ _ _ _ _ _ _ _ _ _ _ _ _ _ _ _ _ _ _ _ _ _ _ _ _ _ _ _ _ _ _ _ _ _ _ _ _ _ _ _ _ _ _ _ _ _ _ _ _ _ _ _ _ _ _ _ _ _ _ _ _ _ _ _ _ _ _ _ _ _ _ _ _ _ _ _ _ _ _ _ _ _ _ _ _ _ _ _ _ _ _ _ _ _ _ _ _ _ _ _ _ _ _ _ _ _ _ _ _ _ _ _ _ _ _ _ _ _ _ _ _ _ _ _ _ _ _ _ _ _ _ _ _ _ _ _ _ _ _ _ _ _ _ _ _ _ _ _ _ _ _ _ _ _ _ _ _ _ _)
set_option maxRecDepth 100000 in
theorem lifted (os : Os) (started : os.Started) (H : Type) (enc : TypeId × Value → H) :
    ReturnsInHanded {} Try.checked os 4 .any (Rows.fnRaysSpec.pre6 enc Try.prog Try.f4 Rows.fnRaysRow.domain false) (Rows.fnRaysSpec.post enc Try.prog Try.f4 false true false false) := by
  refine returnsInHanded_of_change (C := Try.checked) own started (by kernel_rfl) Try.func4
    (ChangeSpec.witness6 (enc := enc) (C := Try.checked) false ⟨#[], #[.slice none 0 0], []⟩ 8 (by kernel_rfl) (by kernel_rfl) (by kernel_rfl) (by kernel_rfl)) ?_
  intro W base args ds gs before hval0 hW hcnd _
  have hval : ∀ (j : Nat) t v, Try.f4.params[j]? = some t → args[j]? = some v → Value.okWide Try.prog W .any base t v := hval0
  have hW' := hW
  obtain ⟨p, q, hA0, hV, rfl, hfz, hnd⟩ := hW
  have hA : DataW.TrodAll enc Try.prog W 0 (fun _ => true) true Try.f4.params.toList args.toList ds p := hA0
  rw [Try.params4] at hA hval
  obtain ⟨v0, vs0, d0, ds0, p0, q0, hargs, rfl, rfl, h0, r0⟩ := trodAll_cons hA
  obtain ⟨rfl, rfl, rfl⟩ := trodAll_nil r0
  obtain rfl : args = #[v0] := by cases args; simp_all
  obtain ⟨rfl, rfl⟩ := trodVars_none hV
  have k0 := h0
  have lt0 : ∀ x ∈ p0, x.block < W.heap.size := by obtain ⟨m, hm⟩ := k0; exact DataW.trod_lt m _ _ _ hm
  obtain ⟨A0, n0, c0, rfl⟩ := okWide_slice Try.underlying22 (hval 0 22 v0 rfl rfl)
  obtain ⟨m0, w0⟩ := open_code h0
  clear hA0 hval0
  refine (walk A0 n0 c0 W m0 w0).mono fun e W1 ⟨he, bel⟩ => ?_
  subst he
  exact ⟨_, rfl, _, _, _, [], _, [], hW', trodAll_mk1 (shut_bool Try.underlying4 _), (trodAll_cons_mk (Below.trod laidOut (by kernel_rfl) (of_decide_eq_true (by kernel_rfl)) k0 bel lt0) trodAll_mk0), rfl, bel.frame _, fun h => by cases h⟩

/-- The statement. -/
theorem proved : Rows.FnRaysSaid :=
  OpenClaim.holds_of_wide 4 Try.f4 rfl rfl rfl rfl rfl rfl rfl ⟨rfl, rfl, rfl, rfl, rfl⟩ rfl rfl rfl rfl rfl (by kernel_rfl) Try.func4 (by kernel_rfl)
    (of_decide_eq_true (by kernel_rfl)) (by unfold Func.isWrapper; first | (rw [if_pos (by decide +kernel)]; kernel_rfl) | (rw [if_neg (by decide +kernel)]; exact ⟨rfl, rfl⟩))
    (fun os started H enc _ => lifted os started H enc)
#print axioms proved
end Go.Proofs.Ytdmnkmdlochogab.fnRays
