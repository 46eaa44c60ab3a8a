/-
  Proved here: for every slice of spots the law laws.FnExactBoxOf returns true (impl.BoxOf answers as spec.BoxOf and writes into no argument), and the argument reads afterwards as before.
  Conditions: none beyond the row's own.
-/
import Derived.Test.YtjnimedbjmihaaaOpen
import Derived.Test.YtjnimedbjmihaaaBoi
namespace Go.Proofs.Ytjnimedbjmihaaa.fnExactBoxOf
open Go.Joins Go.ChangeShapes Go.WideShapes Go.ChangeAt Go.RowKit Go.Deep
set_option linter.unusedVariables false

/-! ### The walk: the Go text returns true, and nothing that was there has turned. -/
set_option maxHeartbeats 1600000 in
theorem walk (A : Option Addr) (n c : Nat) (l : List (Int × Int)) (w : World) (hs : Spots w w.heap.size A n l) (hm : n ≤ maxLen) :
    Calls Try.prog 9 #[.slice A n c] w fun e w' => e = .returned (.bool true) ∧ Below w.heap.size w w' := by
  by_cases h0 : (1048576 : Int) < n
  · go_enter Try.func9, Try.ntmps9
    go_wp2_with (go_at_call 45; refine (sz_neg A n c _ h0 hm).mono ?_; rintro e w' ⟨rfl, rfl⟩)
    go_ret
    exact ⟨rfl, Below.refl _ _⟩
  have hle : n ≤ 1048576 := by omega
  obtain rfl := hs.1
  have HS := Lib.hid hs
  clear hs h0
  go_enter Try.func9, Try.ntmps9
  go_wp2_with fail
  refine (sz_pos A _ c _ hle).mono ?_
  rintro e w' ⟨rfl, rfl⟩
  go_wp2_with fail
  refine (copy_any A _ c l _ HS.out hle).mono ?_
  rintro e w1 ⟨g1, rfl, hF, hb⟩
  have HF1 := Lib.hid (spots_of_fill hF rfl)
  have HB1 := Lib.hid hb
  have HS1 := Lib.hid (spots_more HS.out hb)
  clear hF hb
  go_wp2_with fail
  refine (bo_spec _ _ l _ HF1.out hm).mono ?_
  rintro e w2 ⟨rfl, hb⟩
  have HB2 := Lib.hid (bthen HB1.out hb HB1.out.size)
  have HS2 := Lib.hid (spots_more HS1.out hb)
  clear hb
  dsimp only [boV, boxRes]
  go_wp2_with fail
  refine (copy_any A _ c l _ (spots_alloc HS2.out _) hle).mono ?_
  rintro e w3 ⟨g3, rfl, hF, hb⟩
  have HF3 := Lib.hid (spots_of_fill hF rfl)
  have HX3 := Lib.hid (And.intro (bthen HB2.out (box1 hb).1 HB2.out.size) (box1 hb).2)
  have HS3 := Lib.hid (spots_more (spots_alloc HS2.out _) hb)
  clear hF hb
  go_wp2_with fail
  refine (bo_impl _ _ l _ HF3.out hm (Nat.le_refl _)).mono ?_
  rintro e w4 ⟨rfl, hb⟩
  have HX4 := Lib.hid (And.intro (bthen HX3.out.1 hb HX3.out.1.size) (HX3.out.2.next hb))
  have HS4 := Lib.hid (spots_more HS3.out hb)
  have HF4 := Lib.hid (spots_more HF3.out hb)
  clear hb
  dsimp only [boV, boxRes]
  have HA := HX4.out.2.alloc (.cells #[.int .i64 (ifK (boK l) (ext min (·.1) l l.length)), .int .i64 (ifK (boK l) (ext min (·.2) l l.length)), .int .i64 (ifK (boK l) (ext max (·.1) l l.length)), .int .i64 (ifK (boK l) (ext max (·.2) l l.length))] 35)
  have c0 := HA.at_ 0 _ rfl
  have c1 := HA.at_ 1 _ rfl
  have c2 := HA.at_ 2 _ rfl
  have c3 := HA.at_ 3 _ rfl
  clear HA
  go_wp2_with fail
  refine (eqBox_same _ _ _ _ _).mono ?_
  rintro e w5 ⟨rfl, hb⟩
  have HB5 := Lib.hid (bthen HX4.out.1 (box1 hb).1 HX4.out.1.size)
  have HS5 := Lib.hid (spots_more (spots_alloc HS4.out _) hb)
  have HF5 := Lib.hid (spots_more (spots_alloc HF4.out _) hb)
  clear hb c0 c1 c2 c3
  go_wp2_with fail
  refine (copy_any A _ c l _ HS5.out hle).mono ?_
  rintro e w6 ⟨g6, rfl, hF, hb⟩
  have HF6 := Lib.hid (spots_of_fill hF rfl)
  have HB6 := Lib.hid (bthen HB5.out hb HB5.out.size)
  have HG6 := Lib.hid (spots_more HF5.out hb)
  clear hF hb
  go_wp2_with fail
  refine (eq_same _ _ _ _ _ l _ HG6.out HF6.out hm).mono ?_
  rintro e w7 ⟨rfl, hb⟩
  have HB7 := Lib.hid (bthen HB6.out hb HB6.out.size)
  clear hb
  go_wp2_with fail
  go_ret
  exact ⟨rfl, HB7.out⟩

/-! ### The row's step. -/
set_option maxRecDepth 100000 in
theorem lifted (os : Os) (started : os.Started) (H : Type) (enc : TypeId × Value → H) :
    ReturnsInHanded {} Try.checked os 9 .any (Rows.fnExactBoxOfSpec.pre6 enc Try.prog Try.f9 Rows.fnExactBoxOfRow.domain false) (Rows.fnExactBoxOfSpec.post enc Try.prog Try.f9 false true false false) := by
  refine returnsInHanded_of_change (C := Try.checked) own started (by kernel_rfl) Try.func9
    (ChangeSpec.witness6 (enc := enc) (C := Try.checked) false ⟨#[], #[.slice none 0 0], []⟩ 8 (by kernel_rfl) (by kernel_rfl) (by kernel_rfl) (by kernel_rfl)) ?_
  intro W base args ds gs before hval0 hW hcnd _
  have hval : ∀ (j : Nat) t v, Try.f9.params[j]? = some t → args[j]? = some v → Value.okWide Try.prog W .any base t v := hval0
  have hW' := hW
  obtain ⟨p, q, hA0, hV, rfl, hfz, hnd⟩ := hW
  have hA : DataW.TrodAll enc Try.prog W 0 (fun _ => true) true Try.f9.params.toList args.toList ds p := hA0
  rw [Try.params9] at hA hval
  obtain ⟨v0, vs0, d0, ds0, p0, q0, hargs, rfl, rfl, h0, r0⟩ := trodAll_cons hA
  obtain ⟨rfl, rfl, rfl⟩ := trodAll_nil r0
  obtain rfl : args = #[v0] := by cases args; simp_all
  obtain ⟨rfl, rfl⟩ := trodVars_none hV
  have k0 := h0
  have lt0 : ∀ x ∈ p0, x.block < W.heap.size := by obtain ⟨m, hm⟩ := k0; exact DataW.trod_lt m _ _ _ hm
  obtain ⟨A0, n0, c0, rfl⟩ := okWide_slice Try.underlying57 (hval 0 57 v0 rfl rfl)
  obtain ⟨m0, l0, w0⟩ := open_spots h0
  clear hA0 hval0
  refine (walk A0 n0 c0 l0 W w0 m0).mono fun e W1 ⟨he, bel⟩ => ?_
  subst he
  exact ⟨_, rfl, _, _, _, [], _, [], hW', trodAll_mk1 (shut_bool Try.underlying4 _), (trodAll_cons_mk (Below.trod laidOut (by kernel_rfl) (of_decide_eq_true (by kernel_rfl)) k0 bel lt0) trodAll_mk0), rfl, bel.frame _, fun h => by cases h⟩

/-- The statement. -/
theorem proved : Rows.FnExactBoxOfSaid :=
  OpenClaim.holds_of_wide 9 Try.f9 rfl rfl rfl rfl rfl rfl rfl ⟨rfl, rfl, rfl, rfl, rfl⟩ rfl rfl rfl rfl rfl (by kernel_rfl) Try.func9 (by kernel_rfl)
    (of_decide_eq_true (by kernel_rfl)) (by unfold Func.isWrapper; first | (rw [if_pos (by decide +kernel)]; kernel_rfl) | (rw [if_neg (by decide +kernel)]; exact ⟨rfl, rfl⟩))
    (fun os started H enc _ => lifted os started H enc)
#print axioms proved
end Go.Proofs.Ytjnimedbjmihaaa.fnExactBoxOf
