/-
  Proved here: for every slice of passes and two numbers the law laws.FnExactBusyShare returns true (impl.BusyShare answers as spec.BusyShare and writes into no argument), and the arguments read afterwards as before.
  Conditions: none beyond the row's own.
-/
import Derived.Test.YtllfmjnniagjfaaJl
import Derived.Test.YtllfmjnniagjfaaJa
namespace Go.Proofs.Ytllfmjnniagjfaa.fnExactBusyShare
open Go.Joins Go.ChangeShapes Go.WideShapes Go.ChangeAt Go.RowKit Go.Deep
set_option linter.unusedVariables false

/-! ### The walk: the Go text returns true, and nothing that was there has turned. -/
set_option maxRecDepth 20000 in
set_option maxHeartbeats 1600000 in
theorem walk (A : Option Addr) (n c : Nat) (L : List PS) (a b : Int) (w : World) (hs : SdsJ w w.heap.size A n L) (hm : n ≤ maxLen) :
    Calls Try.prog 8 #[.slice A n c, .int .i64 a, .int .i64 b] w fun e w' => e = .returned (.bool true) ∧ Below w.heap.size w w' := by
  by_cases h0 : n ≤ 1048576
  · obtain rfl := hs.1
    have HS := Lib.hid hs
    have HSZ := Lib.hid h0
    have hle : 0 ≤ (1048576 : Int) - L.length := by omega
    clear hs h0
    go_enter Try.func8, Try.ntmps8
    go_wp2_with fail
    refine (szS_posJ A _ c _ _ (by omega) (by omega)).mono ?_
    rintro e w1 ⟨rfl, rfl⟩
    go_wp2_with fail
    refine (copySs_anyJ A _ c L _ HS.out HSZ.out).mono ?_
    rintro e w2 ⟨g2, rfl, hF, hb⟩
    have HB2 := Lib.hid hb
    have HF2 := Lib.hid (sds_of_fillJ hF rfl)
    clear hb hF
    go_wp2_with fail
    refine (busy_spec _ _ _ L a b _ HF2.out hm).mono ?_
    rintro e w3 ⟨rfl, hb⟩
    have HB3 := Lib.hid (bthen HB2.out hb HB2.out.size)
    have HF2' := Lib.hid (sds_atJ HF2.out hb)
    clear hb
    go_wp2_with fail
    refine (copySs_anyJ A _ c L _ (sds_atJ HS.out HB3.out) HSZ.out).mono ?_
    rintro e w4 ⟨g4, rfl, hF, hb⟩
    have HB4 := Lib.hid (bthen HB3.out hb HB3.out.size)
    have HF4 := Lib.hid (sds_of_fillJ hF rfl)
    clear hb hF
    go_wp2_with fail
    refine (busy_impl _ _ _ L a b _ HF4.out hm).mono ?_
    rintro e w5 ⟨rfl, hb⟩
    have HB5 := Lib.hid (bthen HB4.out hb HB4.out.size)
    have HF4' := Lib.hid (sds_atJ HF4.out hb)
    clear hb
    go_wp2_with fail
    refine (copySs_anyJ A _ c L _ (sds_atJ HS.out HB5.out) HSZ.out).mono ?_
    rintro e w6 ⟨g6, rfl, hF, hb⟩
    have HB6 := Lib.hid (bthen HB5.out hb HB5.out.size)
    have HF4'' := Lib.hid (sds_atJ HF4'.out hb)
    have HF6 := Lib.hid (sds_of_fillJ hF rfl)
    clear hb hF
    go_wp2_with fail
    refine (eqSs_sameJ _ _ _ _ _ L _ HF4''.out HF6.out hm).mono ?_
    rintro e w7 ⟨rfl, hb⟩
    have HB7 := Lib.hid (bthen HB6.out hb HB6.out.size)
    have HF4''' := Lib.hid (sds_atJ HF4''.out hb)
    have HF6' := Lib.hid (sds_atJ HF6.out hb)
    clear hb
    go_wp2_with fail
    go_ret
    exact ⟨rfl, HB7.out⟩
  · go_enter Try.func8, Try.ntmps8
    go_wp2_with fail
    refine (szS_negJ A n c _ _ (by omega) (by omega) (by omega) hm).mono ?_
    rintro e w1 ⟨rfl, rfl⟩
    go_wp2_with fail
    go_ret
    exact ⟨rfl, Below.refl _ _⟩

/-! ### The row's step. -/
set_option maxRecDepth 100000 in
theorem lifted (os : Os) (started : os.Started) (H : Type) (enc : TypeId × Value → H) :
    ReturnsInHanded {} Try.checked os 8 .any (Rows.fnExactBusyShareSpec.pre6 enc Try.prog Try.f8 Rows.fnExactBusyShareRow.domain false) (Rows.fnExactBusyShareSpec.post enc Try.prog Try.f8 false true false false) := by
  refine returnsInHanded_of_change (C := Try.checked) own started (by kernel_rfl) Try.func8
    (ChangeSpec.witness6 (enc := enc) (C := Try.checked) false ⟨#[], #[.slice none 0 0, .int .i64 0, .int .i64 0], []⟩ 8 (by kernel_rfl) (by kernel_rfl) (by kernel_rfl) (by kernel_rfl)) ?_
  intro W base args ds gs before hval0 hW hcnd _
  have hval : ∀ (j : Nat) t v, Try.f8.params[j]? = some t → args[j]? = some v → Value.okWide Try.prog W .any base t v := hval0
  have hW' := hW
  obtain ⟨p, q, hA0, hV, rfl, hfz, hnd⟩ := hW
  have hA : DataW.TrodAll enc Try.prog W 0 (fun _ => true) true Try.f8.params.toList args.toList ds p := hA0
  rw [Try.params8] at hA hval
  obtain ⟨v0, vs0, d0, ds0, p0, q0, hargs, rfl, rfl, h0, r0⟩ := trodAll_cons hA
  obtain ⟨v1, vs1, d1, ds1, p1, q1, rfl, rfl, rfl, h1, r1⟩ := trodAll_cons r0
  obtain ⟨v2, vs2, d2, ds2, p2, q2, rfl, rfl, rfl, h2, r2⟩ := trodAll_cons r1
  obtain ⟨rfl, rfl, rfl⟩ := trodAll_nil r2
  obtain rfl : args = #[v0, v1, v2] := by cases args; simp_all
  obtain ⟨rfl, rfl⟩ := trodVars_none hV
  have k0 := h0
  have lt0 : ∀ x ∈ p0, x.block < W.heap.size := by obtain ⟨m, hm⟩ := k0; exact DataW.trod_lt m _ _ _ hm
  obtain ⟨A0, n0, c0, rfl⟩ := okWide_slice Try.underlying60 (hval 0 60 v0 rfl rfl)
  obtain ⟨m0, l0, w0⟩ := open_linesJ h0
  have k1 := h1
  have lt1 : ∀ x ∈ p1, x.block < W.heap.size := by obtain ⟨m, hm⟩ := k1; exact DataW.trod_lt m _ _ _ hm
  obtain ⟨x1, rfl⟩ := open_num (hval 1 3 v1 rfl rfl) h1
  have k2 := h2
  have lt2 : ∀ x ∈ p2, x.block < W.heap.size := by obtain ⟨m, hm⟩ := k2; exact DataW.trod_lt m _ _ _ hm
  obtain ⟨x2, rfl⟩ := open_num (hval 2 3 v2 rfl rfl) h2
  clear hA0 hval0
  refine (walk A0 n0 c0 l0 x1 x2 W w0 m0).mono fun e W1 ⟨he, bel⟩ => ?_
  subst he
  exact ⟨_, rfl, _, _, _, [], _, [], hW', trodAll_mk1 (shut_bool Try.underlying4 _), (trodAll_cons_mk (Below.trod laidOut (by kernel_rfl) (of_decide_eq_true (by kernel_rfl)) k0 bel lt0) (trodAll_cons_mk (Below.trod laidOut (by kernel_rfl) (of_decide_eq_true (by kernel_rfl)) k1 bel lt1) (trodAll_cons_mk (Below.trod laidOut (by kernel_rfl) (of_decide_eq_true (by kernel_rfl)) k2 bel lt2) trodAll_mk0))), rfl, bel.frame _, fun h => by cases h⟩

/-- The statement. -/
theorem proved : Rows.FnExactBusyShareSaid :=
  OpenClaim.holds_of_wide 8 Try.f8 rfl rfl rfl rfl rfl rfl rfl ⟨rfl, rfl, rfl, rfl, rfl⟩ rfl rfl rfl rfl rfl (by kernel_rfl) Try.func8 (by kernel_rfl)
    (of_decide_eq_true (by kernel_rfl)) (by unfold Func.isWrapper; first | (rw [if_pos (by decide +kernel)]; kernel_rfl) | (rw [if_neg (by decide +kernel)]; exact ⟨rfl, rfl⟩))
    (fun os started H enc _ => lifted os started H enc)
#print axioms proved
end Go.Proofs.Ytllfmjnniagjfaa.fnExactBusyShare
