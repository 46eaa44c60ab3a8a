/-
  Proved here: for every slice of casts the law laws.FnExactAreCasts returns true (impl.AreCasts answers as spec.AreCasts and writes into no argument), and the arguments read afterwards as before.
  Conditions: none beyond the row's own.
-/
import Derived.Test.YtnpcnafjjgkfgaaZs
import Derived.Test.YtnpcnafjjgkfgaaZy
namespace Go.Proofs.Ytnpcnafjjgkfgaa.fnExactAreCasts
open Go.Joins Go.ChangeShapes Go.WideShapes Go.ChangeAt Go.RowKit Go.Deep
set_option linter.unusedVariables false

/-! ### The walk: the Go text returns true, and nothing that was there has turned. -/
set_option maxRecDepth 20000 in
set_option maxHeartbeats 3200000 in
theorem walk (A : Option Addr) (n c : Nat) (L : List KC) (w : World) (hs : Casts w w.heap.size A n L) (hm : n ≤ maxLen) :
    Calls Try.prog 6 #[.slice A n c] w fun e w' => e = .returned (.bool true) ∧ Below w.heap.size w w' := by
  by_cases h0 : n + szKL L ≤ 1048576
  · obtain rfl := hs.1
    have HS := Lib.hid hs
    have HSZ := Lib.hid h0
    have hle : 0 ≤ (1048576 : Int) - L.length - (szKL L : Nat) := by omega
    clear hs h0
    go_enter Try.func6, Try.ntmps6
    go_wp2_with fail
    refine (szKs_pos A _ c L _ HS.out HSZ.out).mono ?_
    rintro e w1 ⟨rfl, hb⟩
    have HB1 := Lib.hid hb
    clear hb
    go_wp2_with fail
    refine (copyKs_any A _ c L _ (casts_at HS.out HB1.out) HSZ.out).mono ?_
    rintro e w2 ⟨ga, rfl, hF, hb⟩
    have HB2 := Lib.hid (bthen HB1.out hb HB1.out.size)
    have HFa := Lib.hid (casts_of_fill hF rfl HSZ.out)
    clear hF hb
    go_wp2_with fail
    refine (areK_spec _ _ _ L _ HFa.out hm).mono ?_
    rintro e w3 ⟨rfl, hb⟩
    have HB3 := Lib.hid (bthen HB2.out hb HB2.out.size)
    clear hb
    go_wp2_with fail
    refine (copyKs_any A _ c L _ (casts_at HS.out HB3.out) HSZ.out).mono ?_
    rintro e w4 ⟨gx, rfl, hF, hb⟩
    have HB4 := Lib.hid (bthen HB3.out hb HB3.out.size)
    have HFx := Lib.hid (casts_of_fill hF rfl HSZ.out)
    clear hF hb
    go_wp2_with fail
    refine (areK_impl _ _ _ L _ HFx.out hm (Nat.le_refl _)).mono ?_
    rintro e w5 ⟨rfl, hb⟩
    have HB5 := Lib.hid (bthen HB4.out hb HB4.out.size)
    have HFx_5 := Lib.hid (casts_at HFx.out hb)
    clear hb
    go_wp2_with fail
    refine (copyKs_any A _ c L _ (casts_at HS.out HB5.out) HSZ.out).mono ?_
    rintro e w6 ⟨gy, rfl, hF, hb⟩
    have HB6 := Lib.hid (bthen HB5.out hb HB5.out.size)
    have HFx_6 := Lib.hid (casts_at HFx_5.out hb)
    have HFy := Lib.hid (casts_of_fill hF rfl HSZ.out)
    clear hF hb
    go_wp2_with fail
    refine (eqKs_same _ _ _ _ _ L _ HFx_6.out HFy.out hm).mono ?_
    rintro e w7 ⟨rfl, hb⟩
    have HB7 := Lib.hid (bthen HB6.out hb HB6.out.size)
    clear hb
    go_wp2_with fail
    go_ret
    exact ⟨rfl, HB7.out⟩
  · have HSx := Lib.hid hs
    go_enter Try.func6, Try.ntmps6
    go_wp2_with fail
    refine (szKs_neg A n c L _ HSx.out hm h0).mono ?_
    rintro e w1 ⟨rfl, hb⟩
    have HT := Lib.hid hb
    clear hb
    go_wp2_with fail
    go_ret
    exact ⟨rfl, HT.out⟩

/-! ### The row's step. -/
set_option maxRecDepth 100000 in
theorem lifted (os : Os) (started : os.Started) (H : Type) (enc : TypeId × Value → H) :
    ReturnsInHanded {} Try.checked os 6 .any (Rows.fnExactAreCastsSpec.pre6 enc Try.prog Try.f6 Rows.fnExactAreCastsRow.domain false) (Rows.fnExactAreCastsSpec.post enc Try.prog Try.f6 false true false false) := by
  refine returnsInHanded_of_change (C := Try.checked) own started (by kernel_rfl) Try.func6
    (ChangeSpec.witness6 (enc := enc) (C := Try.checked) false ⟨#[], #[.slice none 0 0], []⟩ 8 (by kernel_rfl) (by kernel_rfl) (by kernel_rfl) (by kernel_rfl)) ?_
  intro W base args ds gs before hval0 hW hcnd _
  have hval : ∀ (j : Nat) t v, Try.f6.params[j]? = some t → args[j]? = some v → Value.okWide Try.prog W .any base t v := hval0
  have hW' := hW
  obtain ⟨p, q, hA0, hV, rfl, hfz, hnd⟩ := hW
  have hA : DataW.TrodAll enc Try.prog W 0 (fun _ => true) true Try.f6.params.toList args.toList ds p := hA0
  rw [Try.params6] at hA hval
  obtain ⟨v0, vs0, d0, ds0, p0, q0, hargs, rfl, rfl, h0, r0⟩ := trodAll_cons hA
  obtain ⟨rfl, rfl, rfl⟩ := trodAll_nil r0
  obtain rfl : args = #[v0] := by cases args; simp_all
  obtain ⟨rfl, rfl⟩ := trodVars_none hV
  have k0 := h0
  have lt0 : ∀ x ∈ p0, x.block < W.heap.size := by obtain ⟨m, hm⟩ := k0; exact DataW.trod_lt m _ _ _ hm
  obtain ⟨A0, n0, c0, rfl⟩ := okWide_slice Try.underlying59 (hval 0 59 v0 rfl rfl)
  obtain ⟨m0, L0, w0⟩ := open_casts h0
  clear hA0 hval0
  refine (walk A0 n0 c0 L0 W w0 m0).mono fun e W1 ⟨he, bel⟩ => ?_
  subst he
  exact ⟨_, rfl, _, _, _, [], _, [], hW', trodAll_mk1 (shut_bool Try.underlying4 _), (trodAll_cons_mk (Below.trod laidOut (by kernel_rfl) (of_decide_eq_true (by kernel_rfl)) k0 bel lt0) trodAll_mk0), rfl, bel.frame _, fun h => by cases h⟩

/-- The statement. -/
theorem proved : Rows.FnExactAreCastsSaid :=
  OpenClaim.holds_of_wide 6 Try.f6 rfl rfl rfl rfl rfl rfl rfl ⟨rfl, rfl, rfl, rfl, rfl⟩ rfl rfl rfl rfl rfl (by kernel_rfl) Try.func6 (by kernel_rfl)
    (of_decide_eq_true (by kernel_rfl)) (by unfold Func.isWrapper; first | (rw [if_pos (by decide +kernel)]; kernel_rfl) | (rw [if_neg (by decide +kernel)]; exact ⟨rfl, rfl⟩))
    (fun os started H enc _ => lifted os started H enc)
#print axioms proved
end Go.Proofs.Ytnpcnafjjgkfgaa.fnExactAreCasts
