/-
  Proved here: for every code the law laws.FnTideLevels returns true (a higher level never makes a reduced depth greater, and levels lie between those of the tides), and the argument reads afterwards as before.
  Conditions: none beyond the row's own.
-/
import Derived.Test.YtdmnkmdlochogaaOt
import Derived.Test.YtdmnkmdlochogaaFt19
namespace Go.Proofs.Ytdmnkmdlochogaa.fnTideLevels
open Go.Joins Go.ChangeShapes Go.WideShapes Go.ChangeAt Go.RowKit Go.Deep
set_option linter.unusedVariables false

/-! ### The walk: the Go text returns true, and nothing that was there has turned. -/
set_option maxRecDepth 20000 in
set_option maxHeartbeats 12800000 in
theorem walk (A : Option Addr) (n c : Nat) (w : World) (hm : n ≤ maxLen) (hr : CodeRow w.heap.size A n w) :
    Calls Try.prog 4 #[.slice A n c] w fun e w' => e = .returned (.bool true) ∧ Below w.heap.size w w' := by
  rcases hb0 : decide ((65536 : Int) < n) with _ | _
  rotate_left
  · have HV := Lib.hid hb0
    clear hb0
    go_enter Try.func4, Try.ntmps4
    go_wp2_with fail
    refine (vBig_any _ _ _ _ HV.out _).mono ?_
    rintro e w' ⟨rfl, rfl⟩
    go_wp2_with fail
    go_ret
    exact ⟨rfl, Below.refl _ _⟩
  have HV := Lib.hid hb0
  clear hb0
  have HB0 := Lib.hid (Below.refl w.heap.size w)
  go_enter Try.func4, Try.ntmps4
  go_wp2_with fail
  refine (vBig_any _ _ _ _ HV.out _).mono ?_
  rintro e w' ⟨rfl, rfl⟩
  go_wp2_with fail
  refine (draw_level _ n c _ (hr.below HB0.out HB0.out.size)).mono ?_
  rintro e w1 ⟨Rq, mq, pq, a, rfl, hi_a, hD⟩
  obtain ⟨hmq, ⟨lq, hsq⟩, hb⟩ := hD
  obtain ⟨a_lo, a_hi⟩ := hi_a
  have HB2 := Lib.hid (bthen HB0.out hb HB0.out.size)
  have HSq_1 := Lib.hid hsq
  clear hsq hb
  have hlq : mq ≤ maxLen := by unfold maxLen; omega
  obtain ⟨N1, hN1⟩ : ∃ z, z = loN lq a := ⟨_, rfl⟩
  obtain ⟨D1, hD1⟩ : ∃ z, z = loD lq a := ⟨_, rfl⟩
  obtain ⟨K1, hK1⟩ : ∃ z, z = loK lq a := ⟨_, rfl⟩
  have HV1 := Lib.hid (And.intro hN1 (And.intro hD1 hK1))
  clear hN1 hD1 hK1
  go_wp2_with fail
  refine (levelAt_impl _ _ _ lq a _ HSq_1.out hlq).mono ?_
  rintro e w3 ⟨he, hb⟩
  rw [← HV1.out.1, ← HV1.out.2.1, ← HV1.out.2.2] at he
  subst he
  have HB4 := Lib.hid (bthen HB2.out hb HB2.out.size)
  have HSq_5 := Lib.hid (spots_at HSq_1.out hb)
  clear hb
  go_wp2_with fail
  refine (levelAt_spec _ _ _ lq a _ HSq_5.out hlq).mono ?_
  rintro e w6 ⟨he, hb⟩
  rw [← HV1.out.1, ← HV1.out.2.1, ← HV1.out.2.2] at he
  subst he
  have HB7 := Lib.hid (bthen HB4.out hb HB4.out.size)
  have HSq_8 := Lib.hid (spots_at HSq_5.out hb)
  clear hb
  go_wp2_with fail
  refine (isT_impl _ _ _ lq _ HSq_8.out hlq).mono ?_
  rintro e w9 ⟨rfl, hb⟩
  have HB10 := Lib.hid (bthen HB7.out hb HB7.out.size)
  have HSq_11 := Lib.hid (spots_at HSq_8.out hb)
  clear hb
  go_wp2_with fail
  refine (isT_spec _ _ _ lq _ HSq_11.out hlq).mono ?_
  rintro e w12 ⟨rfl, hb⟩
  have HB13 := Lib.hid (bthen HB10.out hb HB10.out.size)
  have HSq_14 := Lib.hid (spots_at HSq_11.out hb)
  clear hb
  go_upto_if 89 with fail
  rename_i KK aK
  have HKK := Lib.hid aK
  clear aK
  rcases K1 with _ | _
  · skip
    go_wp2_with fail
    exact HKK.out _ _ (tail19 rfl A n c w _ hr HB13.out _ _ _ _ _ _ _ _ _ _ _ _ _ _ _ _ _ _ _ _ _ _ _ _ _ _ _ _ _ _ _ _ _ _ _ _ _ _ _ _ _ _ _ _ _ _ _ _ _ _ _ _ _ _ _ _ _ _ _ _ _ _ _ _ _ _ _ _ _ _ _ _ _ _ _ _ _ _ _ _ _ _ _ _ _ _ _ _ _ _ _ _ _ _ _ _ _ _ _ _ _ _ _ _ _ _ _ _ _ _ _ _ _ _ _ _ _ _ _ _ _ _ _ _ _ _ _ _ _ _ _ _ _ _ _ _ _ _ _ _ _ _ _ _ _ _ _ _ _ _ _ _ _ _ _ _ _ _ _ _ _ _ _ _ _ _ _ _ _ _ _ _ _ _ _ _ _ _ _ _ _ _ _ _ _ _ _ _ _ _ _ _ _ _ _ _ _ _ _ _ _ _ _ _ _ _ _ _ _ _ _ _ _ _ _ _ _ _ _ _ _ _ _ _ _ _ _ _ _ _ _ _ _ _ _ _ _ _ _ _ _ _ _ _ _ _ _ _ _ _ _ _ _ _ _ _ _ _ _ _ _ _ _ _ _ _ _ _ _ _ _ _ _ _ _ _ _ _ _ _ _ _ _ _ _ _ _ _ _ _ _ _ _ _ _ _ _ _ _ _ _ _)
  · skip
    have hk1 := HV1.out.2.2.symm
    have p0 := lo_parts hk1
    have nbd := rl_bd p0.1 p0.2.1
    have HTB := Lib.hid p0.1
    have HLB : Hid (∀ lo hi : Int, (∀ k, k < lq.length → lo ≤ lvAt lq k ∧ lvAt lq k ≤ hi) → lo * (rlD lq a : Int) ≤ rlN lq a ∧ rlN lq a ≤ hi * (rlD lq a : Int)) := Lib.hid fun lo hi h => lo_between hk1 h
    have e1 := HV1.out.1.trans p0.2.2.1
    have e2 := HV1.out.2.1.trans p0.2.2.2
    obtain ⟨dn, hdn⟩ : ∃ z, z = rlD lq a := ⟨_, rfl⟩
    rw [← hdn] at e2 nbd HLB
    rw [← e1] at nbd HLB
    subst e2
    clear hdn e1 p0 hk1
    have HSX := HSq_14
    obtain ⟨⟨n1, n2⟩, n3, n4⟩ := nbd
    have hml := HSq_14.out.1
    have hml2 := (tide_parts HTB.out).1.2
    go_wp2_with fail
    go_loop [11, 12, 13] (fun s u i => ∃ (k : Nat) (lo hi : Int), k ≤ mq ∧ s = .int .i64 lo ∧ u = .int .i64 hi ∧ i = .int .i64 k ∧ (-1000 ≤ lo ∧ lo ≤ 2000) ∧ (-1000 ≤ hi ∧ hi ≤ 2000) ∧ Hid (∀ p, p < k → lo ≤ lvAt lq p ∧ lvAt lq p ≤ hi)) (fun _ _ i => mq - (intOf i).toNat)
    case atStart => exact ⟨0, 2000, -1000, Nat.zero_le _, rfl, rfl, rfl, by omega, by omega, Lib.hid fun p h => absurd h (by omega)⟩
    case round =>
      obtain ⟨k, lo, hi, hk, rfl, rfl, rfl, hlo, hhi, hP⟩ := hrel
      by_cases hlt : k < mq
      · obtain ⟨b, o, x, y, rfl, hbl, hl, c0, c1⟩ := HSX.out.2 k hlt
        have hbd := (tide_at HTB.out (k := k) (by omega)).2
        rw [lv_of hl] at hbd
        have HY := Lib.hid (lv_of hl)
        clear hl hbl
        have HST : ∀ lo2 hi2 : Int, lo2 ≤ lo → hi ≤ hi2 → lo2 ≤ y → y ≤ hi2 → Hid (∀ p, p < k + 1 → lo2 ≤ lvAt lq p ∧ lvAt lq p ≤ hi2) := fun lo2 hi2 h1 h2 h3 h4 => Lib.hid fun p hp => by
          rcases Nat.lt_or_ge p k with h | h
          · have := hP.out p h; omega
          · obtain rfl : p = k := by omega
            rw [HY.out]; exact ⟨h3, h4⟩
        obtain ⟨hlo1, hlo2⟩ := hlo
        obtain ⟨hhi1, hhi2⟩ := hhi
        obtain ⟨hbd1, hbd2⟩ := hbd
        by_cases h1 : y < lo
        · by_cases h2 : hi < y
          · have HN := HST y y (by omega) (by omega) (by omega) (by omega)
            clear HST
            go_wp2_with fail
            go_round
            case rel => exact ⟨k + 1, y, y, by omega, rfl, rfl, by go_num, by omega, by omega, HN⟩
            case measure => simp [intOf]; omega
          · have HN := HST y hi (by omega) (by omega) (by omega) (by omega)
            clear HST
            go_wp2_with fail
            go_round
            case rel => exact ⟨k + 1, y, hi, by omega, rfl, rfl, by go_num, by omega, by omega, HN⟩
            case measure => simp [intOf]; omega
        · by_cases h2 : hi < y
          · have HN := HST lo y (by omega) (by omega) (by omega) (by omega)
            clear HST
            go_wp2_with fail
            go_round
            case rel => exact ⟨k + 1, lo, y, by omega, rfl, rfl, by go_num, by omega, by omega, HN⟩
            case measure => simp [intOf]; omega
          · have HN := HST lo hi (by omega) (by omega) (by omega) (by omega)
            clear HST
            go_wp2_with fail
            go_round
            case rel => exact ⟨k + 1, lo, hi, by omega, rfl, rfl, by go_num, by omega, by omega, HN⟩
            case measure => simp [intOf]; omega
      · obtain rfl : k = mq := by omega
        obtain ⟨c1, c2⟩ := HLB.out lo hi (fun p hp => hP.out p (by omega))
        have b1 := lvl_bd (v := lo) (d := dn) hlo n2
        have b2 := lvl_bd (v := hi) (d := dn) hhi n2
        obtain ⟨b11, b12⟩ := b1
        obtain ⟨b21, b22⟩ := b2
        have hd1 : decide (N1 < lo * (dn : Int)) = false := decide_eq_false (by omega)
        have hd2 : decide (hi * (dn : Int) < N1) = false := decide_eq_false (by omega)
        go_wp2_with fail
        exact HKK.out _ _ (tail19 rfl A n c w _ hr HB13.out _ _ _ _ _ _ _ _ _ _ _ _ _ _ _ _ _ _ _ _ _ _ _ _ _ _ _ _ _ _ _ _ _ _ _ _ _ _ _ _ _ _ _ _ _ _ _ _ _ _ _ _ _ _ _ _ _ _ _ _ _ _ _ _ _ _ _ _ _ _ _ _ _ _ _ _ _ _ _ _ _ _ _ _ _ _ _ _ _ _ _ _ _ _ _ _ _ _ _ _ _ _ _ _ _ _ _ _ _ _ _ _ _ _ _ _ _ _ _ _ _ _ _ _ _ _ _ _ _ _ _ _ _ _ _ _ _ _ _ _ _ _ _ _ _ _ _ _ _ _ _ _ _ _ _ _ _ _ _ _ _ _ _ _ _ _ _ _ _ _ _ _ _ _ _ _ _ _ _ _ _ _ _ _ _ _ _ _ _ _ _ _ _ _ _ _ _ _ _ _ _ _ _ _ _ _ _ _ _ _ _ _ _ _ _ _ _ _ _ _ _ _ _ _ _ _ _ _ _ _ _ _ _ _ _ _ _ _ _ _ _ _ _ _ _ _ _ _ _ _ _ _ _ _ _ _ _ _ _ _ _ _ _ _ _ _ _ _ _ _ _ _ _ _ _ _ _ _ _ _ _ _ _ _ _ _ _ _ _ _ _ _ _ _ _ _ _ _ _ _ _ _)

/-! ### The row's step. -/
set_option maxRecDepth 100000 in
theorem lifted (os : Os) (started : os.Started) (H : Type) (enc : TypeId × Value → H) :
    ReturnsInHanded {} Try.checked os 4 .any (Rows.fnTideLevelsSpec.pre6 enc Try.prog Try.f4 Rows.fnTideLevelsRow.domain false) (Rows.fnTideLevelsSpec.post enc Try.prog Try.f4 false true false false) := by
  refine returnsInHanded_of_change (C := Try.checked) own started (by kernel_rfl) Try.func4
    (ChangeSpec.witness6 (enc := enc) (C := Try.checked) false ⟨#[], #[.slice none 0 0], []⟩ 8 (by kernel_rfl) (by kernel_rfl) (by kernel_rfl) (by kernel_rfl)) ?_
  intro W base args ds gs before hval0 hW hcnd _
  have hval : ∀ (j : Nat) t v, Try.f4.params[j]? = some t → args[j]? = some v → Value.okWide Try.prog W .any base t v := hval0
  have hW' := hW
  obtain ⟨p, q, hA0, hV, rfl, hfz, hnd⟩ := hW
  have hA : DataW.TrodAll enc Try.prog W 0 (fun _ => true) true Try.f4.params.toList args.toList ds p := hA0
  rw [Try.params4] at hA hval
  obtain ⟨v0, vs0, d0, ds0, p0, q0, hargs, rfl, rfl, h0, r0⟩ := trodAll_cons hA
  obtain ⟨rfl, rfl, rfl⟩ := trodAll_nil r0
  obtain rfl : args = #[v0] := by cases args; simp_all
  obtain ⟨rfl, rfl⟩ := trodVars_none hV
  have k0 := h0
  have lt0 : ∀ x ∈ p0, x.block < W.heap.size := by obtain ⟨m, hm⟩ := k0; exact DataW.trod_lt m _ _ _ hm
  obtain ⟨A0, n0, c0, rfl⟩ := okWide_slice Try.underlying22 (hval 0 22 v0 rfl rfl)
  obtain ⟨m0, w0⟩ := open_code h0
  clear hA0 hval0
  refine (walk A0 n0 c0 W m0 w0).mono fun e W1 ⟨he, bel⟩ => ?_
  subst he
  exact ⟨_, rfl, _, _, _, [], _, [], hW', trodAll_mk1 (shut_bool Try.underlying4 _), (trodAll_cons_mk (Below.trod laidOut (by kernel_rfl) (of_decide_eq_true (by kernel_rfl)) k0 bel lt0) trodAll_mk0), rfl, bel.frame _, fun h => by cases h⟩

/-- The statement. -/
theorem proved : Rows.FnTideLevelsSaid :=
  OpenClaim.holds_of_wide 4 Try.f4 rfl rfl rfl rfl rfl rfl rfl ⟨rfl, rfl, rfl, rfl, rfl⟩ rfl rfl rfl rfl rfl (by kernel_rfl) Try.func4 (by kernel_rfl)
    (of_decide_eq_true (by kernel_rfl)) (by unfold Func.isWrapper; first | (rw [if_pos (by decide +kernel)]; kernel_rfl) | (rw [if_neg (by decide +kernel)]; exact ⟨rfl, rfl⟩))
    (fun os started H enc _ => lifted os started H enc)
#print axioms proved
end Go.Proofs.Ytdmnkmdlochogaa.fnTideLevels
