/-
  Proved here: for every code the law laws.FnLevels returns true (high waters are within the range, times are common both ways, errors of the zero have opposite signs), and the argument reads afterwards as before.
  Conditions: none beyond the row's own.
-/
import Derived.Test.YtdmnkmdlochogaaLv18
namespace Go.Proofs.Ytdmnkmdlochogaa.fnLevels
open Go.Joins Go.ChangeShapes Go.WideShapes Go.ChangeAt Go.RowKit Go.Deep
set_option linter.unusedVariables false

/-! ### The walk: the Go text returns true, and nothing that was there has turned. -/
set_option maxRecDepth 20000 in
set_option maxHeartbeats 12800000 in
theorem walk (A : Option Addr) (n c : Nat) (w : World) (hm : n ≤ maxLen) (hr : CodeRow w.heap.size A n w) :
    Calls Try.prog 3 #[.slice A n c] w fun e w' => e = .returned (.bool true) ∧ Below w.heap.size w w' := by
  rcases hb0 : decide ((65536 : Int) < n) with _ | _
  rotate_left
  · have HV := Lib.hid hb0
    clear hb0
    go_enter Try.func3, Try.ntmps3
    go_wp2_with fail
    refine (rBig_any _ _ _ _ HV.out _).mono ?_
    rintro e w' ⟨rfl, rfl⟩
    go_wp2_with fail
    go_ret
    exact ⟨rfl, Below.refl _ _⟩
  have HV := Lib.hid hb0
  have HRW := Lib.hid hr
  clear hb0 hr
  have HB0 := Lib.hid (Below.refl w.heap.size w)
  go_enter Try.func3, Try.ntmps3
  go_wp2_with fail
  refine (rBig_any _ _ _ _ HV.out _).mono ?_
  rintro e w' ⟨rfl, rfl⟩
  go_wp2_with fail
  refine (draw_high _ n c _ (HRW.out.below HB0.out HB0.out.size)).mono ?_
  rintro e w1 ⟨si, sn, sz, sR, sm, sc, ls, rfl, hll, hgm, hgn, hrow, hb⟩
  have HB1 := Lib.hid (bthen HB0.out hb HB0.out.size)
  have HNs := Lib.hid (show sn.size ≤ maxLen by unfold maxLen; omega)
  have HMs := Lib.hid (show sm ≤ maxLen by unfold maxLen; omega)
  have HCs := Lib.hid (grow_cap hrow hll)
  obtain ⟨W2, hW2⟩ : ∃ W, W = w1.alloc (.cells #[.int .i64 si, .string sn, .int .i64 sz, .slice sR sm sc] 26) := ⟨_, rfl⟩
  have HW2 : Hid (Below w1.heap.size w1 W2) := by rw [hW2]; exact Lib.hid ((Below.refl _ _).alloc (Nat.le_refl _) _)
  have HG2 : Hid (Has W2 w1.heap.size [.int .i64 si, .string sn, .int .i64 sz, .slice sR sm sc]) := by rw [hW2]; exact Lib.hid (by simpa using Has.new w1 #[.int .i64 si, .string sn, .int .i64 sz, .slice sR sm sc] 26)
  have HS2 := Lib.hid (spots_more ((grow_own hrow hll).spots (Nat.le_refl _)) HW2.out)
  have HB2 := Lib.hid (bthen HB1.out HW2.out HB1.out.size)
  have HE := Lib.hid hW2
  clear hW2 hb hrow hll hgm hgn
  go_upto_region 4 with fail
  rw [← HE.out]
  clear HE
  obtain ⟨X, hX⟩ : ∃ X, X = hwR si sz sn ls := ⟨_, rfl⟩
  obtain ⟨G, hG⟩ : ∃ G, G = gaugeB si sn sz ls := ⟨_, rfl⟩
  obtain ⟨lo, hlo⟩ : ∃ lo, lo = rgV min si sz sn ls := ⟨_, rfl⟩
  obtain ⟨hi, hhi⟩ : ∃ hi, hi = rgV max si sz sn ls := ⟨_, rfl⟩
  obtain ⟨K, hK⟩ : ∃ K, K = rgK si sz sn ls := ⟨_, rfl⟩
  have HX := Lib.hid hX
  have HGB := Lib.hid hG
  have HLO := Lib.hid hlo
  have HHI := Lib.hid hhi
  have HK := Lib.hid hK
  have HXL : Hid (X.length ≤ 1048576) := by rw [hX]; exact Lib.hid (hwR_len _ _ _ _)
  have HXM : Hid (X.length ≤ maxLen) := Lib.hid (by have := HXL.out; unfold maxLen; omega)
  clear hX hG hlo hhi hK
  have g0 := HG2.out.at_ 0 _ rfl
  have g1 := HG2.out.at_ 1 _ rfl
  have g2 := HG2.out.at_ 2 _ rfl
  have g3 := HG2.out.at_ 3 _ rfl
  go_wp2_with fail
  refine (high_impl si sz sn sR sm sc ls _ HS2.out HMs.out HNs.out).mono ?_
  rintro e w3 ⟨A3, c3, he, hO, hb⟩
  rw [← HX.out, ← HGB.out] at he
  rw [← HX.out] at hO
  subst he
  have HO3 := Lib.hid (hO.spots (Nat.le_refl _))
  have HB3 := Lib.hid (bthen HB2.out hb HB2.out.size)
  have HG3 := Lib.hid (HG2.out.next hb)
  have HS3 := Lib.hid (spots_more HS2.out hb)
  clear hb hO g0 g1 g2 g3
  have g0 := HG3.out.at_ 0 _ rfl
  have g1 := HG3.out.at_ 1 _ rfl
  have g2 := HG3.out.at_ 2 _ rfl
  have g3 := HG3.out.at_ 3 _ rfl
  go_wp2_with fail
  refine (high_spec si sz sn sR sm sc ls _ HS3.out HMs.out HNs.out).mono ?_
  rintro e w4 ⟨A4, c4, he, hO, hb⟩
  rw [← HX.out, ← HGB.out] at he
  rw [← HX.out] at hO
  subst he
  have HP4 := Lib.hid (hO.spots (Nat.le_refl _))
  have HO4 := Lib.hid (spots_more HO3.out hb)
  have HB4 := Lib.hid (bthen HB3.out hb HB3.out.size)
  have HG4 := Lib.hid (HG3.out.next hb)
  have HS4 := Lib.hid (spots_more HS3.out hb)
  clear hb hO g0 g1 g2 g3
  go_wp2_with fail
  refine (rR_same A3 A4 X.length c3 c4 X _ HO4.out HP4.out HXM.out).mono ?_
  rintro e w5 ⟨rfl, hb⟩
  have HO5 := Lib.hid (spots_more HO4.out hb)
  have HB5 := Lib.hid (bthen HB4.out hb HB4.out.size)
  have HG5 := Lib.hid (HG4.out.next hb)
  have HS5 := Lib.hid (spots_more HS4.out hb)
  clear hb HP4
  have g0 := HG5.out.at_ 0 _ rfl
  have g1 := HG5.out.at_ 1 _ rfl
  have g2 := HG5.out.at_ 2 _ rfl
  have g3 := HG5.out.at_ 3 _ rfl
  go_wp2_with fail
  refine (range_impl si sz sn sR sm sc ls _ HS5.out HMs.out HNs.out HCs.out).mono ?_
  rintro e w6 ⟨he, hb⟩
  rw [← HLO.out, ← HHI.out, ← HK.out] at he
  subst he
  have HO6 := Lib.hid (spots_more HO5.out hb)
  have HB6 := Lib.hid (bthen HB5.out hb HB5.out.size)
  have HG6 := Lib.hid (HG5.out.next hb)
  have HS6 := Lib.hid (spots_more HS5.out hb)
  clear hb g0 g1 g2 g3
  have g0 := HG6.out.at_ 0 _ rfl
  have g1 := HG6.out.at_ 1 _ rfl
  have g2 := HG6.out.at_ 2 _ rfl
  have g3 := HG6.out.at_ 3 _ rfl
  go_wp2_with fail
  refine (range_spec si sz sn sR sm sc ls _ HS6.out HMs.out HNs.out).mono ?_
  rintro e w7 ⟨he, hb⟩
  rw [← HLO.out, ← HHI.out, ← HK.out] at he
  subst he
  have HO7 := Lib.hid (spots_more HO6.out hb)
  have HB7 := Lib.hid (bthen HB6.out hb HB6.out.size)
  have HG7 := Lib.hid (HG6.out.next hb)
  clear hb g0 g1 g2 g3 HO3 HO4 HO5 HO6
  go_wp2_with fail
  rename_i KK aK
  have HKK := Lib.hid aK
  clear aK
  go_loopw [14] (fun i wr => ∃ k : Nat, k ≤ X.length ∧ i = .int .i64 k ∧ Hid (Below w7.heap.size w7 wr)) (fun i _ => X.length - (intOf i).toNat)
  case atStart => exact ⟨0, Nat.zero_le _, rfl, Lib.hid (Below.refl _ _)⟩
  case round =>
    obtain ⟨k, hk, rfl, hB⟩ := hrel
    obtain ⟨W0, rfl⟩ : ∃ W : World, W = wr := ⟨_, rfl⟩
    by_cases hlt : k < X.length
    · obtain ⟨b2, o2, x, y, rfl, hb2, hl2, q0, q1⟩ := (spots_more HO7.out hB.out).2 k hlt
      obtain ⟨hkk, h1, h2, ⟨y1, y2⟩, ⟨z1, z2⟩⟩ := hw_in (by rw [← HX.out]; exact hl2)
      obtain rfl : K = true := HK.out.trans hkk
      have hd1 : decide (y + sz < lo) = false := decide_eq_false (by rw [HLO.out]; omega)
      have hd2 : decide (hi < y + sz) = false := decide_eq_false (by rw [HHI.out]; omega)
      have HGk := Lib.hid (HG7.out.next hB.out)
      have g2 := HGk.out.at_ 2 _ rfl
      clear hl2 hkk h1 h2 q0
      have hln := HXL.out
      go_wp2_with fail
      have lc0 := lcell (q1)
      have lc1 := lcell (g2)
      refine region_later (W := W0) (by kernel_rfl) (by kernel_rfl) (Below.refl _ _) ?_
      repeat (go_big_quiet_step (fail))
      refine wpQuiet_nil ?_
      intro W1 hW1
      have HL : Hid (Below W0.heap.size W0 W1) := by obtain ⟨x, rfl⟩ := hW1; exact Lib.hid x.below
      clear hW1 lc0 lc1
      have HT := Lib.hid (bthen hB.out HL.out hB.out.size)
      clear HL q1 g2
      go_wp2_with fail
      go_roundw
      case rel => exact ⟨k + 1, by omega, by go_num, HT⟩
      case measure => simp [intOf]; omega
    · obtain rfl : k = X.length := by omega
      have HBe := Lib.hid (bthen HB7.out hB.out HB7.out.size)
      go_wp2_with fail
      exact HKK.out _ _ (tail18 rfl A n c w _ HRW.out HBe.out _ _ _ _ _ _ _ _ _ _ _ _ _ _ _ _ _ _ _ _ _ _ _ _ _ _ _ _ _ _ _ _ _ _ _ _ _ _ _ _ _ _ _ _ _ _ _ _ _ _ _ _ _ _ _ _ _ _ _ _ _ _ _ _ _ _ _ _ _ _ _ _ _ _ _ _ _ _ _ _ _ _ _ _ _ _ _ _ _ _ _ _ _ _ _ _ _ _ _ _ _ _ _ _ _ _ _ _ _ _ _ _ _ _ _ _ _ _ _ _ _ _ _ _ _ _ _ _ _ _ _ _ _ _ _ _ _ _ _ _ _ _ _ _ _ _ _ _ _ _ _ _ _ _ _ _ _ _ _ _ _ _ _ _ _ _ _ _ _ _ _ _ _ _ _ _ _ _ _ _ _ _ _ _ _ _ _ _ _ _ _ _ _ _ _ _ _ _ _ _ _ _ _ _ _ _ _ _ _ _ _ _ _ _ _ _ _ _ _ _ _ _ _)
set_option maxRecDepth 100000 in
theorem lifted (os : Os) (started : os.Started) (H : Type) (enc : TypeId × Value → H) :
    ReturnsInHanded {} Try.checked os 3 .any (Rows.fnLevelsSpec.pre6 enc Try.prog Try.f3 Rows.fnLevelsRow.domain false) (Rows.fnLevelsSpec.post enc Try.prog Try.f3 false true false false) := by
  refine returnsInHanded_of_change (C := Try.checked) own started (by kernel_rfl) Try.func3
    (ChangeSpec.witness6 (enc := enc) (C := Try.checked) false ⟨#[], #[.slice none 0 0], []⟩ 8 (by kernel_rfl) (by kernel_rfl) (by kernel_rfl) (by kernel_rfl)) ?_
  intro W base args ds gs before hval0 hW hcnd _
  have hval : ∀ (j : Nat) t v, Try.f3.params[j]? = some t → args[j]? = some v → Value.okWide Try.prog W .any base t v := hval0
  have hW' := hW
  obtain ⟨p, q, hA0, hV, rfl, hfz, hnd⟩ := hW
  have hA : DataW.TrodAll enc Try.prog W 0 (fun _ => true) true Try.f3.params.toList args.toList ds p := hA0
  rw [Try.params3] at hA hval
  obtain ⟨v0, vs0, d0, ds0, p0, q0, hargs, rfl, rfl, h0, r0⟩ := trodAll_cons hA
  obtain ⟨rfl, rfl, rfl⟩ := trodAll_nil r0
  obtain rfl : args = #[v0] := by cases args; simp_all
  obtain ⟨rfl, rfl⟩ := trodVars_none hV
  have k0 := h0
  have lt0 : ∀ x ∈ p0, x.block < W.heap.size := by obtain ⟨m, hm⟩ := k0; exact DataW.trod_lt m _ _ _ hm
  obtain ⟨A0, n0, c0, rfl⟩ := okWide_slice Try.underlying22 (hval 0 22 v0 rfl rfl)
  obtain ⟨m0, w0⟩ := open_code h0
  clear hA0 hval0
  refine (walk A0 n0 c0 W m0 w0).mono fun e W1 ⟨he, bel⟩ => ?_
  subst he
  exact ⟨_, rfl, _, _, _, [], _, [], hW', trodAll_mk1 (shut_bool Try.underlying4 _), (trodAll_cons_mk (Below.trod laidOut (by kernel_rfl) (of_decide_eq_true (by kernel_rfl)) k0 bel lt0) trodAll_mk0), rfl, bel.frame _, fun h => by cases h⟩

/-- The statement. -/
theorem proved : Rows.FnLevelsSaid :=
  OpenClaim.holds_of_wide 3 Try.f3 rfl rfl rfl rfl rfl rfl rfl ⟨rfl, rfl, rfl, rfl, rfl⟩ rfl rfl rfl rfl rfl (by kernel_rfl) Try.func3 (by kernel_rfl)
    (of_decide_eq_true (by kernel_rfl)) (by unfold Func.isWrapper; first | (rw [if_pos (by decide +kernel)]; kernel_rfl) | (rw [if_neg (by decide +kernel)]; exact ⟨rfl, rfl⟩))
    (fun os started H enc _ => lifted os started H enc)
#print axioms proved
end Go.Proofs.Ytdmnkmdlochogaa.fnLevels
