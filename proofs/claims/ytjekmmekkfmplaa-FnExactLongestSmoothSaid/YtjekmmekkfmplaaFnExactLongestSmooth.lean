/-
  Proved here: for every slice of numbers and number the law laws.FnExactLongestSmooth returns true (impl.LongestSmooth answers as spec.LongestSmooth and writes into no argument), and the arguments read afterwards as before.
  Conditions: none beyond the row's own.
-/
import Derived.Test.YtjekmmekkfmplaaJk
import Derived.Test.YtjekmmekkfmplaaIi
import Derived.Test.YtjekmmekkfmplaaEx
import Derived.Test.YtjekmmekkfmplaaEi
namespace Go.Proofs.Ytjekmmekkfmplaa.fnExactLongestSmooth
open Go.Joins Go.ChangeShapes Go.WideShapes Go.ChangeAt Go.RowKit Go.Deep
set_option linter.unusedVariables false

/-! ### The walk: the Go text returns true, and nothing that was there has turned. -/
set_option maxRecDepth 20000 in
set_option maxHeartbeats 6400000 in
theorem walk (A : Option Addr) (n c : Nat) (P : List Int) (l : Int) (w : World) (hp : ISeq w w.heap.size A n P) (hpm : n ≤ maxLen) :
    Calls Try.prog 12 #[.slice A n c, .int .i64 l] w fun z w' => z = .returned (.bool true) ∧ Below w.heap.size w w' := by
  obtain rfl := hp.1
  by_cases hPn : (1048576 : Int) < P.length
  · go_enter Try.func12, Try.ntmps12
    go_wp2_with fail
    go_ret
    exact ⟨rfl, Below.refl _ _⟩
  have HP := Lib.hid hp
  have HPN : Hid (P.length ≤ 1048576) := Lib.hid (by omega)
  clear hp
  have HB0 := Lib.hid (Below.refl w.heap.size w)
  go_enter Try.func12, Try.ntmps12
  go_wp2_with fail
  refine (copyI_any A _ c P _ (iseq_at HP.out HB0.out) HPN.out).mono ?_
  rintro z w1 ⟨gi1, rfl, hO, hb⟩
  have HZ0 := Lib.hid hb.size
  have HB1 := Lib.hid (bthen HB0.out hb HB0.out.size)
  have HIs := Lib.hid hO
  clear hO
  clear hb
  go_wp2_with fail
  refine (smooth_spec _ _ _ _ P l _ HIs.out (Nat.le_refl _) HPN.out).mono ?_
  rintro z w2 ⟨rfl, hb⟩
  have HZ1 := Lib.hid hb.size
  have HB2 := Lib.hid (bthen HB1.out hb HB1.out.size)
  have Hs_1 := Lib.hid (HIs.out.on hb (Nat.le_refl _))
  clear hb
  go_wp2_with fail
  refine (copyI_any A _ c P _ (iseq_at HP.out HB2.out) HPN.out).mono ?_
  rintro z w3 ⟨gi3, rfl, hO, hb⟩
  have HZ2 := Lib.hid hb.size
  have HB3 := Lib.hid (bthen HB2.out hb HB2.out.size)
  have HIx := Lib.hid hO
  clear hO
  clear hb
  go_wp2_with fail
  refine (smooth_impl _ _ _ _ P l _ HIx.out (Nat.le_refl _) HPN.out).mono ?_
  rintro z w4 ⟨rfl, hb⟩
  have HZ3 := Lib.hid hb.size
  have HB4 := Lib.hid (bthen HB3.out hb HB3.out.size)
  have Hx_2 := Lib.hid (HIx.out.on hb (Nat.le_refl _))
  clear hb
  go_wp2_with fail
  refine (copyI_any A _ c P _ (iseq_at HP.out HB4.out) HPN.out).mono ?_
  rintro z w5 ⟨gi5, rfl, hO, hb⟩
  have HZ4 := Lib.hid hb.size
  have HB5 := Lib.hid (bthen HB4.out hb HB4.out.size)
  have Hx_3 := Lib.hid (Hx_2.out.on hb (by have z0 := HZ0.out; have z1 := HZ1.out; have z2 := HZ2.out; have z3 := HZ3.out; have z4 := HZ4.out; omega))
  have HIy := Lib.hid hO
  clear hO
  clear hb
  go_wp2_with fail
  refine (eqI_same _ _ _ _ _ _ _ _ _ _ _ Hx_3.out HIy.out HPN.out).mono ?_
  rintro z w6 ⟨rfl, dk, hdk⟩
  have hb : Below w5.heap.size w5 w6 := by rw [hdk]; exact bdrewN (Below.refl _ _) _
  clear hdk
  have HZ5 := Lib.hid hb.size
  have HB6 := Lib.hid (bthen HB5.out hb HB5.out.size)
  have Hx_4 := Lib.hid (Hx_3.out.on hb (by have z0 := HZ0.out; have z1 := HZ1.out; have z2 := HZ2.out; have z3 := HZ3.out; have z4 := HZ4.out; have z5 := HZ5.out; omega))
  have Hy_5 := Lib.hid (HIy.out.on hb (Nat.le_refl _))
  clear hb
  go_wp2_with fail
  go_ret
  exact ⟨rfl, HB6.out⟩

/-! ### The row's step. -/
set_option maxRecDepth 100000 in
theorem lifted (os : Os) (started : os.Started) (H : Type) (enc : TypeId × Value → H) :
    ReturnsInHanded {} Try.checked os 12 .any (Rows.fnExactLongestSmoothSpec.pre6 enc Try.prog Try.f12 Rows.fnExactLongestSmoothRow.domain false) (Rows.fnExactLongestSmoothSpec.post enc Try.prog Try.f12 false true false false) := by
  refine returnsInHanded_of_change (C := Try.checked) own started (by kernel_rfl) Try.func12
    (ChangeSpec.witness6 (enc := enc) (C := Try.checked) false ⟨#[], #[.slice none 0 0, .int .i64 0], []⟩ 8 (by kernel_rfl) (by kernel_rfl) (by kernel_rfl) (by kernel_rfl)) ?_
  intro W base args ds gs before hval0 hW hcnd _
  have hval : ∀ (j : Nat) t v, Try.f12.params[j]? = some t → args[j]? = some v → Value.okWide Try.prog W .any base t v := hval0
  have hW' := hW
  obtain ⟨p, q, hA0, hV, rfl, hfz, hnd⟩ := hW
  have hA : DataW.TrodAll enc Try.prog W 0 (fun _ => true) true Try.f12.params.toList args.toList ds p := hA0
  rw [Try.params12] at hA hval
  obtain ⟨v0, vs0, d0, ds0, p0, q0, hargs, rfl, rfl, h0, r0⟩ := trodAll_cons hA
  obtain ⟨v1, vs1, d1, ds1, p1, q1, rfl, rfl, rfl, h1, r1⟩ := trodAll_cons r0
  obtain ⟨rfl, rfl, rfl⟩ := trodAll_nil r1
  obtain rfl : args = #[v0, v1] := by cases args; simp_all
  obtain ⟨rfl, rfl⟩ := trodVars_none hV
  have k0 := h0
  have lt0 : ∀ x ∈ p0, x.block < W.heap.size := by obtain ⟨m, hm⟩ := k0; exact DataW.trod_lt m _ _ _ hm
  obtain ⟨A0, n0, c0, rfl⟩ := okWide_slice Try.underlying24 (hval 0 24 v0 rfl rfl)
  obtain ⟨m0, l0, w0⟩ := open_intsJ h0
  have k1 := h1
  have lt1 : ∀ x ∈ p1, x.block < W.heap.size := by obtain ⟨m, hm⟩ := k1; exact DataW.trod_lt m _ _ _ hm
  obtain ⟨x1, rfl⟩ := open_num (hval 1 3 v1 rfl rfl) h1
  clear hA0 hval0
  refine (walk A0 n0 c0 l0 x1 W w0 m0).mono fun e W1 ⟨he, bel⟩ => ?_
  subst he
  exact ⟨_, rfl, _, _, _, [], _, [], hW', trodAll_mk1 (shut_bool Try.underlying4 _), (trodAll_cons_mk (Below.trod laidOut (by kernel_rfl) (of_decide_eq_true (by kernel_rfl)) k0 bel lt0) (trodAll_cons_mk (Below.trod laidOut (by kernel_rfl) (of_decide_eq_true (by kernel_rfl)) k1 bel lt1) trodAll_mk0)), rfl, bel.frame _, fun h => by cases h⟩

/-- The statement. -/
theorem proved : Rows.FnExactLongestSmoothSaid :=
  OpenClaim.holds_of_wide 12 Try.f12 rfl rfl rfl rfl rfl rfl rfl ⟨rfl, rfl, rfl, rfl, rfl⟩ rfl rfl rfl rfl rfl (by kernel_rfl) Try.func12 (by kernel_rfl)
    (of_decide_eq_true (by kernel_rfl)) (by unfold Func.isWrapper; first | (rw [if_pos (by decide +kernel)]; kernel_rfl) | (rw [if_neg (by decide +kernel)]; exact ⟨rfl, rfl⟩))
    (fun os started H enc _ => lifted os started H enc)
#print axioms proved
end Go.Proofs.Ytjekmmekkfmplaa.fnExactLongestSmooth
