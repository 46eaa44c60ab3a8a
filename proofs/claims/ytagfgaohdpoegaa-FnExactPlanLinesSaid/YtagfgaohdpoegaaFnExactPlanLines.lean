/-
  Proved here: for every box and number the law laws.FnExactPlanLines returns true (impl.PlanLines answers as spec.PlanLines, writes into no argument, and its answer owns its memory), and the arguments read afterwards as before.
  Conditions: none beyond the row's own.
-/
import Derived.Test.YtagfgaohdpoegaaLl
import Derived.Test.YtagfgaohdpoegaaLm
import Derived.Test.YtagfgaohdpoegaaLq
namespace Go.Proofs.Ytagfgaohdpoegaa.fnExactPlanLines
open Go.Joins Go.ChangeShapes Go.WideShapes Go.ChangeAt Go.RowKit Go.Deep
set_option linter.unusedVariables false

/-! ### The walk: the Go text returns true, and nothing that was there has turned. -/
theorem plR_len (a b d e x : Int) : (plR a b d e x).length ≤ 8 := by
  unfold plR
  split
  · rename_i h
    unfold plK at h
    rw [Bool.and_eq_true] at h
    rw [plL_len]
    exact of_decide_eq_true h.2
  · simp
set_option maxRecDepth 20000 in
set_option maxHeartbeats 6400000 in
theorem walk (a b d e : Int) (x : Int) (w : World) :
    Calls Try.prog 12 #[.agg #[.int .i64 a, .int .i64 b, .int .i64 d, .int .i64 e], .int .i64 x] w fun z w' => z = .returned (.bool true) ∧ Below w.heap.size w w' := by
  have hk9 := plR_len a b d e x
  have HN : Hid ((plR a b d e x).length ≤ 1048576) := Lib.hid (by omega)
  have HNm : Hid ((plR a b d e x).length ≤ maxLen) := Lib.hid (by unfold maxLen; omega)
  go_enter Try.func12, Try.ntmps12
  go_wp2_with fail
  refine (toBoxS_anyN a b d e _).mono ?_
  rintro z w1 ⟨rfl, hb⟩
  have HB1 := Lib.hid (box1 hb).1
  have HX_1 := Lib.hid (box1 hb).2
  have HZ1 := Lib.hid hb.size
  clear hb
  go_wp2_with fail
  refine (plan_spec a b d e x _).mono ?_
  rintro z w2 ⟨As, cs, rfl, hO, hb⟩
  have HB2 := Lib.hid (bthen HB1.out hb HB1.out.size)
  have HX_2 := Lib.hid (HX_1.out.next hb)
  have HZ2 := Lib.hid hb.size
  have HOs := Lib.hid hO
  clear hO hb
  have b0 := HX_2.out.at_ 0 _ rfl
  have b1 := HX_2.out.at_ 1 _ rfl
  have b2 := HX_2.out.at_ 2 _ rfl
  have b3 := HX_2.out.at_ 3 _ rfl
  go_wp2_with fail
  refine (toBoxS_anyN a b d e _).mono ?_
  rintro z w3 ⟨rfl, hb⟩
  have HB3 := Lib.hid (bthen HB2.out hb HB2.out.size)
  have HX_3 := Lib.hid (HX_2.out.next hb)
  have HOs_3 := Lib.hid (HOs.out.on hb (by  omega))
  have HZ3 := Lib.hid hb.size
  clear b0 b1 b2 b3
  clear hb
  go_wp2_with fail
  refine (plan_impl a b d e x _).mono ?_
  rintro z w4 ⟨Ag, cg, rfl, hO, hb⟩
  have HB4 := Lib.hid (bthen HB3.out hb HB3.out.size)
  have HX_4 := Lib.hid (HX_3.out.next hb)
  have HOs_4 := Lib.hid (HOs_3.out.on hb (by have z0 := HZ3.out; omega))
  have HZ4 := Lib.hid hb.size
  have HOg := Lib.hid hO
  clear hO hb
  go_wp2_with fail
  refine (eqSs_sameN _ _ _ _ _ (plR a b d e x) _ HOg.out.sds HOs_4.out.sds HNm.out).mono ?_
  rintro z w5 ⟨rfl, hb⟩
  have HB5 := Lib.hid (bthen HB4.out hb HB4.out.size)
  have HX_5 := Lib.hid (HX_4.out.next hb)
  have HOs_5 := Lib.hid (HOs_4.out.on hb (by have z0 := HZ3.out; have z1 := HZ4.out; omega))
  have HOg_5 := Lib.hid (HOg.out.on hb (by  omega))
  have HZ5 := Lib.hid hb.size
  clear hb
  go_wp2_with fail
  obtain ⟨K, hK⟩ : ∃ K : Int, ((5 * (plR a b d e x).length + 1 : Nat) : Int) = K := ⟨_, rfl⟩
  have hk1 : 0 ≤ K := by omega
  have HK := Lib.hid hK
  clear hK
  refine (markS_kN _ _ _ _ _ _ _ K HK.out HOg_5.out HN.out).mono ?_
  rintro z w6 ⟨rfl, hO, hf⟩
  have hb : Below w3.heap.size w5 w6 := hf.below (Nat.le_refl _) (by have z0 := HZ4.out; have z1 := HZ5.out; omega)
  have HZm := Lib.hid hf.size
  have HBm := Lib.hid (HB5.out.trans (hb.mono (by have y0 := HB3.out.size; omega)))
  have HXm := Lib.hid (HX_5.out.on hb (by have y0 := HB1.out.size; have y1 := HX_1.out.1; have z0 := HZ2.out; have z1 := HZ3.out; have z2 := HZ4.out; have z3 := HZ5.out; omega))
  have HOsm := Lib.hid (HOs_5.out.farB hf (.inl (by have z0 := HZ3.out; have z1 := HZ4.out; have z2 := HZ5.out; omega)))
  have HOgm := Lib.hid hO
  clear hb hf hO
  go_wp2_with fail
  refine (heldS_kN _ _ _ _ _ _ K HK.out HOgm.out HN.out).mono ?_
  rintro z w' ⟨rfl, rfl⟩
  have b0 := HXm.out.at_ 0 _ rfl
  have b1 := HXm.out.at_ 1 _ rfl
  have b2 := HXm.out.at_ 2 _ rfl
  have b3 := HXm.out.at_ 3 _ rfl
  go_wp2_with fail
  refine (toBoxS_anyN a b d e _).mono ?_
  rintro z w7 ⟨rfl, hb⟩
  have HB6 := Lib.hid (bthen HBm.out hb HBm.out.size)
  have HX_6 := Lib.hid (HXm.out.next hb)
  have HOs_6 := Lib.hid (HOsm.out.on hb (by have z0 := HZ3.out; have z1 := HZ4.out; have z2 := HZ5.out; have z3 := HZm.out; omega))
  have HOg_6 := Lib.hid (HOgm.out.on hb (by have z0 := HZ5.out; have z1 := HZm.out; omega))
  have HZ6 := Lib.hid hb.size
  clear b0 b1 b2 b3
  clear hb
  go_wp2_with fail
  refine (plan_impl a b d e x _).mono ?_
  rintro z w8 ⟨Ah, ch, rfl, hO, hb⟩
  have HB7 := Lib.hid (bthen HB6.out hb HB6.out.size)
  have HX_7 := Lib.hid (HX_6.out.next hb)
  have HOs_7 := Lib.hid (HOs_6.out.on hb (by have z0 := HZ3.out; have z1 := HZ4.out; have z2 := HZ5.out; have z3 := HZm.out; have z4 := HZ6.out; omega))
  have HOg_7 := Lib.hid (HOg_6.out.on hb (by have z0 := HZ5.out; have z1 := HZm.out; have z2 := HZ6.out; omega))
  have HZ7 := Lib.hid hb.size
  have HOh := Lib.hid hO
  clear hO hb
  go_wp2_with fail
  refine (eqSs_sameN _ _ _ _ _ (plR a b d e x) _ HOh.out.sds HOs_7.out.sds HNm.out).mono ?_
  rintro z w9 ⟨rfl, hb⟩
  have HB8 := Lib.hid (bthen HB7.out hb HB7.out.size)
  have HX_8 := Lib.hid (HX_7.out.next hb)
  have HOs_8 := Lib.hid (HOs_7.out.on hb (by have z0 := HZ3.out; have z1 := HZ4.out; have z2 := HZ5.out; have z3 := HZm.out; have z4 := HZ6.out; have z5 := HZ7.out; omega))
  have HOg_8 := Lib.hid (HOg_7.out.on hb (by have z0 := HZ5.out; have z1 := HZm.out; have z2 := HZ6.out; have z3 := HZ7.out; omega))
  have HOh_8 := Lib.hid (HOh.out.on hb (by  omega))
  have HZ8 := Lib.hid hb.size
  clear hb
  go_wp2_with fail
  refine (heldS_kN _ _ _ _ _ _ K HK.out HOg_8.out HN.out).mono ?_
  rintro z w' ⟨rfl, rfl⟩
  go_wp2_with fail
  go_ret
  exact ⟨rfl, HB8.out⟩

/-! ### The row's step. -/
set_option maxRecDepth 100000 in
theorem lifted (os : Os) (started : os.Started) (H : Type) (enc : TypeId × Value → H) :
    ReturnsInHanded {} Try.checked os 12 .any (Rows.fnExactPlanLinesSpec.pre6 enc Try.prog Try.f12 Rows.fnExactPlanLinesRow.domain false) (Rows.fnExactPlanLinesSpec.post enc Try.prog Try.f12 false true false false) := by
  refine returnsInHanded_of_change (C := Try.checked) own started (by kernel_rfl) Try.func12
    (ChangeSpec.witness6 (enc := enc) (C := Try.checked) false ⟨#[], #[.agg #[.int .i64 0, .int .i64 0, .int .i64 0, .int .i64 0], .int .i64 0], []⟩ 8 (by kernel_rfl) (by kernel_rfl) (by kernel_rfl) (by kernel_rfl)) ?_
  intro W base args ds gs before hval0 hW hcnd _
  have hval : ∀ (j : Nat) t v, Try.f12.params[j]? = some t → args[j]? = some v → Value.okWide Try.prog W .any base t v := hval0
  have hW' := hW
  obtain ⟨p, q, hA0, hV, rfl, hfz, hnd⟩ := hW
  have hA : DataW.TrodAll enc Try.prog W 0 (fun _ => true) true Try.f12.params.toList args.toList ds p := hA0
  rw [Try.params12] at hA hval
  obtain ⟨v0, vs0, d0, ds0, p0, q0, hargs, rfl, rfl, h0, r0⟩ := trodAll_cons hA
  obtain ⟨v1, vs1, d1, ds1, p1, q1, rfl, rfl, rfl, h1, r1⟩ := trodAll_cons r0
  obtain ⟨rfl, rfl, rfl⟩ := trodAll_nil r1
  obtain rfl : args = #[v0, v1] := by cases args; simp_all
  obtain ⟨rfl, rfl⟩ := trodVars_none hV
  have k0 := h0
  have lt0 : ∀ x ∈ p0, x.block < W.heap.size := by obtain ⟨m, hm⟩ := k0; exact DataW.trod_lt m _ _ _ hm
  obtain ⟨a0, b0, c0, e0, rfl⟩ := open_boxS (hval 0 63 v0 rfl rfl) h0
  have k1 := h1
  have lt1 : ∀ x ∈ p1, x.block < W.heap.size := by obtain ⟨m, hm⟩ := k1; exact DataW.trod_lt m _ _ _ hm
  obtain ⟨x1, rfl⟩ := open_num (hval 1 3 v1 rfl rfl) h1
  clear hA0 hval0
  refine (walk a0 b0 c0 e0 x1 W).mono fun e W1 ⟨he, bel⟩ => ?_
  subst he
  exact ⟨_, rfl, _, _, _, [], _, [], hW', trodAll_mk1 (shut_bool Try.underlying4 _), (trodAll_cons_mk (Below.trod laidOut (by kernel_rfl) (of_decide_eq_true (by kernel_rfl)) k0 bel lt0) (trodAll_cons_mk (Below.trod laidOut (by kernel_rfl) (of_decide_eq_true (by kernel_rfl)) k1 bel lt1) trodAll_mk0)), rfl, bel.frame _, fun h => by cases h⟩

/-- The statement. -/
theorem proved : Rows.FnExactPlanLinesSaid :=
  OpenClaim.holds_of_wide 12 Try.f12 rfl rfl rfl rfl rfl rfl rfl ⟨rfl, rfl, rfl, rfl, rfl⟩ rfl rfl rfl rfl rfl (by kernel_rfl) Try.func12 (by kernel_rfl)
    (of_decide_eq_true (by kernel_rfl)) (by unfold Func.isWrapper; first | (rw [if_pos (by decide +kernel)]; kernel_rfl) | (rw [if_neg (by decide +kernel)]; exact ⟨rfl, rfl⟩))
    (fun os started H enc _ => lifted os started H enc)
#print axioms proved
end Go.Proofs.Ytagfgaohdpoegaa.fnExactPlanLines
