/-
  Proved here: for every slice of crossings and two numbers the law laws.FnExactCorrectLine returns true (impl.CorrectLine answers as spec.CorrectLine, writes into no argument, and its answer owns its memory), and the arguments read afterwards as before.
  Conditions: none beyond the row's own.
-/
import Derived.Test.YtlakdlghkniegaaXl
import Derived.Test.YtlakdlghkniegaaXm
import Derived.Test.YtlakdlghkniegaaKl
import Derived.Test.YtlakdlghkniegaaOn
namespace Go.Proofs.Ytlakdlghkniegaa.fnExactCorrectLine
open Go.Joins Go.ChangeShapes Go.WideShapes Go.ChangeAt Go.RowKit Go.Deep
set_option linter.unusedVariables false

theorem ccR_len (L : List XD) (a b : Int) : (ccR L a b).length ≤ L.length := by
  unfold ccR
  split
  · rw [crL_len]; exact Nat.le_refl _
  · simp
/-! ### The walk: the Go text returns true, and nothing that was there has turned. -/
set_option maxRecDepth 20000 in
set_option maxHeartbeats 3200000 in
theorem walk (A : Option Addr) (n c : Nat) (L : List XD) (a b : Int) (w : World) (hs : SdsX w w.heap.size A n L) (hm : n ≤ maxLen) (hb1 : -9223372036854775808 ≤ b) (hb2 : b ≤ 9223372036854775807) :
    Calls Try.prog 12 #[.slice A n c, .int .i64 a, .int .i64 b] w fun e w' => e = .returned (.bool true) ∧ Below w.heap.size w w' := by
  by_cases h0 : n ≤ 1048576
  · obtain rfl := hs.1
    have HS := Lib.hid hs
    have HSZ := Lib.hid h0
    have HLN : Hid (L.length ≤ 1048576) := Lib.hid (by omega)
    have hle : 0 ≤ (1048576 : Int) - L.length := by omega
    have HN : Hid ((ccR L a b).length ≤ 1048576) := Lib.hid (by have := ccR_len L a b; omega)
    have HNm : Hid ((ccR L a b).length ≤ maxLen) := Lib.hid (by have := ccR_len L a b; unfold maxLen; omega)
    have RNG := Lib.hid (And.intro hb1 hb2)
    clear hs h0 hb1 hb2
    go_enter Try.func12, Try.ntmps12
    go_wp2_with fail
    refine (szS_posX A _ c _ _ (by omega) (by omega)).mono ?_
    rintro e w1 ⟨rfl, rfl⟩
    have HB1 := Lib.hid (Below.refl w.heap.size w)
    go_wp2_with fail
    refine (copySs_anyX A _ c L _ (sds_atX HS.out HB1.out) HSZ.out).mono ?_
    rintro e w2 ⟨g2, rfl, hF, hb⟩
    have HF2 := Lib.hid (sds_of_fillX hF rfl)
    have HB2 := Lib.hid (bthen HB1.out hb HB1.out.size)
    clear hF hb
    go_wp2_with fail
    refine (correct_spec _ _ _ L _ _ _ HF2.out hm).mono ?_
    rintro e w3 ⟨A3, c3, _, rfl, hI, hb⟩
    have HB3 := Lib.hid (bthen HB2.out hb HB2.out.size)
    have HI3 := Lib.hid hI
    clear hI hb
    go_wp2_with fail
    refine (copySs_anyX A _ c L _ (sds_atX HS.out HB3.out) HSZ.out).mono ?_
    rintro e w4 ⟨g4, rfl, hF, hb⟩
    have HF4 := Lib.hid (sds_of_fillX hF rfl)
    have HO4 := Lib.hid (ownS_of_fillX hF rfl)
    have HB4 := Lib.hid (bthen HB3.out hb HB3.out.size)
    have HI34 := Lib.hid (HI3.out.on hb (Nat.le_refl _))
    have HZ4 := Lib.hid hb.size
    clear hF hb
    go_wp2_with fail
    refine (correct_impl _ _ _ L _ _ _ HF4.out hm (Nat.le_refl _) RNG.out.1 RNG.out.2).mono ?_
    rintro e w5 ⟨A5, c5, _, rfl, hI, hb⟩
    have HB5 := Lib.hid (bthen HB4.out hb HB4.out.size)
    have HF5 := Lib.hid (sds_atX HF4.out hb)
    have HO5 := Lib.hid (HO4.out.on hb (Nat.le_refl _))
    have HI5 := Lib.hid hI
    have HI35 := Lib.hid (HI34.out.on hb HZ4.out)
    have HZ5 := Lib.hid hb.size
    clear hI hb
    go_wp2_with fail
    refine (eqSs_sameX _ _ _ _ _ (ccR L a b) _ HI5.out.sds HI35.out.sds HNm.out).mono ?_
    rintro e w6 ⟨rfl, hb⟩
    have HB6 := Lib.hid (bthen HB5.out hb HB5.out.size)
    have HF6 := Lib.hid (sds_atX HF5.out hb)
    have HO6 := Lib.hid (HO5.out.on hb HZ5.out)
    have HI6 := Lib.hid (HI5.out.on hb (Nat.le_refl _))
    have HI36 := Lib.hid (HI35.out.on hb (Nat.le_trans HZ4.out HZ5.out))
    have HZ6 := Lib.hid hb.size
    clear hb
    go_wp2_with fail
    refine (copySs_anyX A _ c L _ (sds_atX HS.out HB6.out) HSZ.out).mono ?_
    rintro e w7 ⟨g7, rfl, hF, hb⟩
    have HF77 := Lib.hid (sds_of_fillX hF rfl)
    have HB7 := Lib.hid (bthen HB6.out hb HB6.out.size)
    have HF7 := Lib.hid (sds_atX HF6.out hb)
    have HO7 := Lib.hid (HO6.out.on hb (Nat.le_trans HZ5.out HZ6.out))
    have HI7 := Lib.hid (HI6.out.on hb HZ6.out)
    have HI37 := Lib.hid (HI36.out.on hb (Nat.le_trans HZ4.out (Nat.le_trans HZ5.out HZ6.out)))
    have HZ7 := Lib.hid hb.size
    clear hF hb
    go_wp2_with fail
    refine (eqSs_sameX _ _ _ _ _ L _ HF7.out HF77.out hm).mono ?_
    rintro e w8 ⟨rfl, hb⟩
    have HB8 := Lib.hid (bthen HB7.out hb HB7.out.size)
    have HO8 := Lib.hid (HO7.out.on hb (Nat.le_trans HZ5.out (Nat.le_trans HZ6.out HZ7.out)))
    have HI8 := Lib.hid (HI7.out.on hb (Nat.le_trans HZ6.out HZ7.out))
    have HI38 := Lib.hid (HI37.out.on hb (Nat.le_trans HZ4.out (Nat.le_trans HZ5.out (Nat.le_trans HZ6.out HZ7.out))))
    have HZ8 := Lib.hid (Nat.le_trans HZ6.out (Nat.le_trans HZ7.out hb.size))
    clear hb
    go_wp2_with fail
    refine (markS_posX _ _ _ _ _ _ _ HO8.out HLN.out).mono ?_
    rintro e w9 ⟨⟨m, rfl, hmm⟩, hf⟩
    have hb : Below w3.heap.size w8 w9 := hf.below (Nat.le_refl _) (by have := HZ4.out; have := HZ5.out; have := HZ8.out; omega)
    have HB9 := Lib.hid (HB8.out.trans (hb.mono HB3.out.size))
    have HI9 := Lib.hid (HI8.out.farB hf (.inr (Nat.le_refl _)))
    have HI39 := Lib.hid (HI38.out.on hb (Nat.le_refl _))
    have HZ9 := Lib.hid (Nat.le_trans HZ8.out hf.size)
    clear hb hf
    go_wp2_with fail
    refine (eqSs_sameX _ _ _ _ _ (ccR L a b) _ HI9.out.sds HI39.out.sds HNm.out).mono ?_
    rintro e w10 ⟨rfl, hb⟩
    have HB10 := Lib.hid (bthen HB9.out hb HB9.out.size)
    have HI10 := Lib.hid (HI9.out.on hb HZ9.out)
    have HI310 := Lib.hid (HI39.out.on hb (Nat.le_trans HZ4.out (Nat.le_trans HZ5.out HZ9.out)))
    have HZ10 := Lib.hid (Nat.le_trans HZ9.out hb.size)
    clear hb
    go_wp2_with fail
    obtain ⟨K, hK⟩ : ∃ K : Int, ((4 * (ccR L a b).length + 1 : Nat) : Int) = K := ⟨_, rfl⟩
    have hk1 : 0 ≤ K := by omega
    have HK := Lib.hid hK
    clear hK
    refine (markS_kX _ _ _ _ _ _ _ K HK.out HI10.out HN.out).mono ?_
    rintro e w11 ⟨rfl, hI, hf⟩
    have hb : Below w4.heap.size w10 w11 := hf.below (Nat.le_refl _) (Nat.le_trans HZ5.out HZ10.out)
    have HB11 := Lib.hid (HB10.out.trans (hb.mono HB4.out.size))
    have HI11 := Lib.hid hI
    have HI311 := Lib.hid (HI310.out.on hb HZ4.out)
    have HZ11 : Hid (w5.heap.size ≤ w11.heap.size) := Lib.hid (Nat.le_trans HZ10.out hf.size)
    clear hb hf hI
    go_wp2_with fail
    refine (heldS_kX _ _ _ _ _ _ K HK.out HI11.out HN.out).mono ?_
    rintro e w11b ⟨rfl, rfl⟩
    have HB11b := HB11
    have HI11b := HI11
    have HI311b := HI311
    have HZ11b := HZ11
    go_wp2_with fail
    refine (copySs_anyX A _ c L _ (sds_atX HS.out HB11b.out) HSZ.out).mono ?_
    rintro e w12 ⟨g12, rfl, hF, hb⟩
    have HF12 := Lib.hid (sds_of_fillX hF rfl)
    have HB12 := Lib.hid (bthen HB11b.out hb HB11b.out.size)
    have HI12 := Lib.hid (HI11b.out.on hb HZ11b.out)
    have HI312 := Lib.hid (HI311b.out.on hb (Nat.le_trans HZ4.out (Nat.le_trans HZ5.out HZ11b.out)))
    have HZ12 := Lib.hid (Nat.le_trans HZ11b.out hb.size)
    clear hF hb
    go_wp2_with fail
    refine (correct_impl _ _ _ L _ _ _ HF12.out hm (Nat.le_refl _) RNG.out.1 RNG.out.2).mono ?_
    rintro e w13 ⟨A13, c13, _, rfl, hI, hb⟩
    have HB13 := Lib.hid (bthen HB12.out hb HB12.out.size)
    have HI13 := Lib.hid (HI12.out.on hb HZ12.out)
    have HI1313 := Lib.hid hI
    have HI313 := Lib.hid (HI312.out.on hb (Nat.le_trans HZ4.out (Nat.le_trans HZ5.out HZ12.out)))
    have HZ13 := Lib.hid (Nat.le_trans HZ12.out hb.size)
    clear hI hb
    go_wp2_with fail
    refine (eqSs_sameX _ _ _ _ _ (ccR L a b) _ HI1313.out.sds HI313.out.sds HNm.out).mono ?_
    rintro e w14 ⟨rfl, hb⟩
    have HB14 := Lib.hid (bthen HB13.out hb HB13.out.size)
    have HI14 := Lib.hid (HI13.out.on hb HZ13.out)
    clear hb
    go_wp2_with fail
    refine (heldS_kX _ _ _ _ _ _ K HK.out HI14.out HN.out).mono ?_
    rintro e w15 ⟨rfl, rfl⟩
    have HB15 := HB14
    go_wp2_with fail
    go_ret
    exact ⟨rfl, HB15.out⟩
  · go_enter Try.func12, Try.ntmps12
    go_wp2_with fail
    refine (szS_negX A n c _ _ (by omega) (by omega) (by omega) hm).mono ?_
    rintro e w1 ⟨rfl, rfl⟩
    go_wp2_with fail
    go_ret
    exact ⟨rfl, Below.refl _ _⟩

/-! ### The row's step. -/
set_option maxRecDepth 100000 in
theorem lifted (os : Os) (started : os.Started) (H : Type) (enc : TypeId × Value → H) :
    ReturnsInHanded {} Try.checked os 12 .any (Rows.fnExactCorrectLineSpec.pre6 enc Try.prog Try.f12 Rows.fnExactCorrectLineRow.domain false) (Rows.fnExactCorrectLineSpec.post enc Try.prog Try.f12 false true false false) := by
  refine returnsInHanded_of_change (C := Try.checked) own started (by kernel_rfl) Try.func12
    (ChangeSpec.witness6 (enc := enc) (C := Try.checked) false ⟨#[], #[.slice none 0 0, .int .i64 0, .int .i64 0], []⟩ 8 (by kernel_rfl) (by kernel_rfl) (by kernel_rfl) (by kernel_rfl)) ?_
  intro W base args ds gs before hval0 hW hcnd _
  have hval : ∀ (j : Nat) t v, Try.f12.params[j]? = some t → args[j]? = some v → Value.okWide Try.prog W .any base t v := hval0
  have hW' := hW
  obtain ⟨p, q, hA0, hV, rfl, hfz, hnd⟩ := hW
  have hA : DataW.TrodAll enc Try.prog W 0 (fun _ => true) true Try.f12.params.toList args.toList ds p := hA0
  rw [Try.params12] at hA hval
  obtain ⟨v0, vs0, d0, ds0, p0, q0, hargs, rfl, rfl, h0, r0⟩ := trodAll_cons hA
  obtain ⟨v1, vs1, d1, ds1, p1, q1, rfl, rfl, rfl, h1, r1⟩ := trodAll_cons r0
  obtain ⟨v2, vs2, d2, ds2, p2, q2, rfl, rfl, rfl, h2, r2⟩ := trodAll_cons r1
  obtain ⟨rfl, rfl, rfl⟩ := trodAll_nil r2
  obtain rfl : args = #[v0, v1, v2] := by cases args; simp_all
  obtain ⟨rfl, rfl⟩ := trodVars_none hV
  have k0 := h0
  have lt0 : ∀ x ∈ p0, x.block < W.heap.size := by obtain ⟨m, hm⟩ := k0; exact DataW.trod_lt m _ _ _ hm
  obtain ⟨A0, n0, c0, rfl⟩ := okWide_slice Try.underlying51 (hval 0 51 v0 rfl rfl)
  obtain ⟨m0, l0, w0⟩ := open_linesX h0
  have k1 := h1
  have lt1 : ∀ x ∈ p1, x.block < W.heap.size := by obtain ⟨m, hm⟩ := k1; exact DataW.trod_lt m _ _ _ hm
  obtain ⟨x1, rfl⟩ := open_num (hval 1 3 v1 rfl rfl) h1
  have k2 := h2
  have lt2 : ∀ x ∈ p2, x.block < W.heap.size := by obtain ⟨m, hm⟩ := k2; exact DataW.trod_lt m _ _ _ hm
  obtain ⟨x2, rfl, y2⟩ := open_num64 (hval 2 3 v2 rfl rfl) h2
  clear hA0 hval0
  refine (walk A0 n0 c0 l0 x1 x2 W w0 m0 y2.1 y2.2).mono fun e W1 ⟨he, bel⟩ => ?_
  subst he
  exact ⟨_, rfl, _, _, _, [], _, [], hW', trodAll_mk1 (shut_bool Try.underlying4 _), (trodAll_cons_mk (Below.trod laidOut (by kernel_rfl) (of_decide_eq_true (by kernel_rfl)) k0 bel lt0) (trodAll_cons_mk (Below.trod laidOut (by kernel_rfl) (of_decide_eq_true (by kernel_rfl)) k1 bel lt1) (trodAll_cons_mk (Below.trod laidOut (by kernel_rfl) (of_decide_eq_true (by kernel_rfl)) k2 bel lt2) trodAll_mk0))), rfl, bel.frame _, fun h => by cases h⟩

/-- The statement. -/
theorem proved : Rows.FnExactCorrectLineSaid :=
  OpenClaim.holds_of_wide 12 Try.f12 rfl rfl rfl rfl rfl rfl rfl ⟨rfl, rfl, rfl, rfl, rfl⟩ rfl rfl rfl rfl rfl (by kernel_rfl) Try.func12 (by kernel_rfl)
    (of_decide_eq_true (by kernel_rfl)) (by unfold Func.isWrapper; first | (rw [if_pos (by decide +kernel)]; kernel_rfl) | (rw [if_neg (by decide +kernel)]; exact ⟨rfl, rfl⟩))
    (fun os started H enc _ => lifted os started H enc)
#print axioms proved
end Go.Proofs.Ytlakdlghkniegaa.fnExactCorrectLine
