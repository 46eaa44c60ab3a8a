/-
  Proved here: for every two slices of numbers the law laws.FnExactKeptDepths returns true (impl.KeptDepths answers as spec.KeptDepths, writes into no argument, and its answer owns its memory), and the arguments read afterwards as before.
  Conditions: none beyond the row's own.
-/
import Derived.Test.YtjekmmekkfmplaaJk
import Derived.Test.YtjekmmekkfmplaaIi
import Derived.Test.YtjekmmekkfmplaaSj
import Derived.Test.YtjekmmekkfmplaaEz
import Derived.Test.YtjekmmekkfmplaaEc
import Derived.Test.YtjekmmekkfmplaaEi
namespace Go.Proofs.Ytjekmmekkfmplaa.fnExactKeptDepths
open Go.Joins Go.ChangeShapes Go.WideShapes Go.ChangeAt Go.RowKit Go.Deep
set_option linter.unusedVariables false

/-! ### The walk: the Go text returns true, and nothing that was there has turned. -/
set_option maxHeartbeats 1600000 in
theorem markI_pos (A : Option Addr) (n c lo hi : Nat) (f : Nat → Int) (w : World) (m : Int) (hm9 : m ≤ 1000000000000) (h : IFun w lo hi A n f) (hn : n ≤ 1048576) (hm : 0 ≤ m) :
    Calls Try.prog 50 #[.slice A n c, .int .i64 m] w fun e w' => (∃ m2 : Int, e = .returned (.int .i64 m2) ∧ 0 ≤ m2) ∧ Far lo hi w w' := by
  obtain ⟨k, rfl⟩ : ∃ k : Nat, m = k := ⟨m.toNat, by omega⟩
  refine (markI_from A n c lo hi k f w h hn (by omega)).mono ?_
  rintro e w' ⟨rfl, _, hf⟩
  exact ⟨⟨_, rfl, by omega⟩, hf⟩
set_option maxRecDepth 20000 in
set_option maxHeartbeats 6400000 in
theorem walk (A : Option Addr) (n c : Nat) (P : List Int) (A' : Option Addr) (n' c' : Nat) (Q : List Int) (w : World) (hp : ISeq w w.heap.size A n P) (hpm : n ≤ maxLen) (hq : ISeq w w.heap.size A' n' Q) (hqm : n' ≤ maxLen) :
    Calls Try.prog 8 #[.slice A n c, .slice A' n' c'] w fun z w' => z = .returned (.bool true) ∧ Below w.heap.size w w' := by
  obtain rfl := hp.1
  by_cases hPn : (1048576 : Int) < P.length
  · go_enter Try.func8, Try.ntmps8
    go_wp2_with fail
    go_ret
    exact ⟨rfl, Below.refl _ _⟩
  obtain rfl := hq.1
  by_cases hQn : (1048576 : Int) < Q.length
  · go_enter Try.func8, Try.ntmps8
    go_wp2_with fail
    go_ret
    exact ⟨rfl, Below.refl _ _⟩
  have HP := Lib.hid hp
  have HPN : Hid (P.length ≤ 1048576) := Lib.hid (by omega)
  have HQ := Lib.hid hq
  have HQN : Hid (Q.length ≤ 1048576) := Lib.hid (by omega)
  have HN : Hid ((ktR P Q).length ≤ 1048576) := Lib.hid (by have := ktR_len P Q; omega)
  clear hp hq
  have HB0 := Lib.hid (Below.refl w.heap.size w)
  go_enter Try.func8, Try.ntmps8
  go_wp2_with fail
  refine (copyI_any A _ c P _ (iseq_at HP.out HB0.out) HPN.out).mono ?_
  rintro z w1 ⟨gi1, rfl, hO, hb⟩
  have HZ0 := Lib.hid hb.size
  have HB1 := Lib.hid (bthen HB0.out hb HB0.out.size)
  have HIs := Lib.hid hO
  clear hO
  clear hb
  go_wp2_with fail
  refine (copyI_any A' _ c' Q _ (iseq_at HQ.out HB1.out) HQN.out).mono ?_
  rintro z w2 ⟨gi2, rfl, hO, hb⟩
  have HZ1 := Lib.hid hb.size
  have HB2 := Lib.hid (bthen HB1.out hb HB1.out.size)
  have Hs_1 := Lib.hid (HIs.out.on hb (Nat.le_refl _))
  have HIu := Lib.hid hO
  clear hO
  clear hb
  go_wp2_with fail
  refine (kept_spec _ _ _ _ _ _ _ _ P Q _ Hs_1.out (by have z0 := HZ0.out; have z1 := HZ1.out; omega) HPN.out HIu.out (Nat.le_refl _) HQN.out).mono ?_
  rintro z w3 ⟨AS, cS, rfl, hO, hb⟩
  have HZ2 := Lib.hid hb.size
  have HB3 := Lib.hid (bthen HB2.out hb HB2.out.size)
  have Hs_2 := Lib.hid (Hs_1.out.on hb (by have z0 := HZ0.out; have z1 := HZ1.out; have z2 := HZ2.out; omega))
  have Hu_3 := Lib.hid (HIu.out.on hb (Nat.le_refl _))
  have HRS := Lib.hid hO
  clear hO
  clear hb
  go_wp2_with fail
  refine (copyI_any A _ c P _ (iseq_at HP.out HB3.out) HPN.out).mono ?_
  rintro z w4 ⟨gi4, rfl, hO, hb⟩
  have HZ3 := Lib.hid hb.size
  have HB4 := Lib.hid (bthen HB3.out hb HB3.out.size)
  have HS_4 := Lib.hid (HRS.out.on hb (Nat.le_refl _))
  have HIx := Lib.hid hO
  clear hO
  clear hb
  go_wp2_with fail
  refine (copyI_any A' _ c' Q _ (iseq_at HQ.out HB4.out) HQN.out).mono ?_
  rintro z w5 ⟨gi5, rfl, hO, hb⟩
  have HZ4 := Lib.hid hb.size
  have HB5 := Lib.hid (bthen HB4.out hb HB4.out.size)
  have HS_5 := Lib.hid (HS_4.out.on hb (by have z0 := HZ0.out; have z1 := HZ1.out; have z2 := HZ2.out; have z3 := HZ3.out; have z4 := HZ4.out; omega))
  have Hx_6 := Lib.hid (HIx.out.on hb (Nat.le_refl _))
  have HIv := Lib.hid hO
  clear hO
  clear hb
  go_wp2_with fail
  refine (kept_impl _ _ _ _ _ _ _ _ P Q _ Hx_6.out (by have z0 := HZ0.out; have z1 := HZ1.out; have z2 := HZ2.out; have z3 := HZ3.out; have z4 := HZ4.out; omega) HPN.out HIv.out (Nat.le_refl _) HQN.out).mono ?_
  rintro z w6 ⟨AG, cG, rfl, hO, hb⟩
  have HZ5 := Lib.hid hb.size
  have HB6 := Lib.hid (bthen HB5.out hb HB5.out.size)
  have HS_7 := Lib.hid (HS_5.out.on hb (by have z0 := HZ0.out; have z1 := HZ1.out; have z2 := HZ2.out; have z3 := HZ3.out; have z4 := HZ4.out; have z5 := HZ5.out; omega))
  have Hx_8 := Lib.hid (Hx_6.out.on hb (by have z0 := HZ0.out; have z1 := HZ1.out; have z2 := HZ2.out; have z3 := HZ3.out; have z4 := HZ4.out; have z5 := HZ5.out; omega))
  have Hv_9 := Lib.hid (HIv.out.on hb (Nat.le_refl _))
  have HRG := Lib.hid hO
  clear hO
  clear hb
  go_wp2_with fail
  refine (eqI_same _ _ _ _ _ _ _ _ _ _ _ HRG.out HS_7.out HN.out).mono ?_
  rintro z w7 ⟨rfl, dk, hdk⟩
  have hb : Below w6.heap.size w6 w7 := by rw [hdk]; exact bdrewN (Below.refl _ _) _
  clear hdk
  have HZ6 := Lib.hid hb.size
  have HB7 := Lib.hid (bthen HB6.out hb HB6.out.size)
  have HS_10 := Lib.hid (HS_7.out.on hb (by have z0 := HZ0.out; have z1 := HZ1.out; have z2 := HZ2.out; have z3 := HZ3.out; have z4 := HZ4.out; have z5 := HZ5.out; have z6 := HZ6.out; omega))
  have Hx_11 := Lib.hid (Hx_8.out.on hb (by have z0 := HZ0.out; have z1 := HZ1.out; have z2 := HZ2.out; have z3 := HZ3.out; have z4 := HZ4.out; have z5 := HZ5.out; have z6 := HZ6.out; omega))
  have Hv_12 := Lib.hid (Hv_9.out.on hb (by have z0 := HZ0.out; have z1 := HZ1.out; have z2 := HZ2.out; have z3 := HZ3.out; have z4 := HZ4.out; have z5 := HZ5.out; have z6 := HZ6.out; omega))
  have HG_13 := Lib.hid (HRG.out.on hb (Nat.le_refl _))
  clear hb
  go_wp2_with fail
  refine (copyI_any A _ c P _ (iseq_at HP.out HB7.out) HPN.out).mono ?_
  rintro z w8 ⟨gi8, rfl, hO, hb⟩
  have HZ7 := Lib.hid hb.size
  have HB8 := Lib.hid (bthen HB7.out hb HB7.out.size)
  have HS_14 := Lib.hid (HS_10.out.on hb (by have z0 := HZ0.out; have z1 := HZ1.out; have z2 := HZ2.out; have z3 := HZ3.out; have z4 := HZ4.out; have z5 := HZ5.out; have z6 := HZ6.out; have z7 := HZ7.out; omega))
  have Hx_15 := Lib.hid (Hx_11.out.on hb (by have z0 := HZ0.out; have z1 := HZ1.out; have z2 := HZ2.out; have z3 := HZ3.out; have z4 := HZ4.out; have z5 := HZ5.out; have z6 := HZ6.out; have z7 := HZ7.out; omega))
  have Hv_16 := Lib.hid (Hv_12.out.on hb (by have z0 := HZ0.out; have z1 := HZ1.out; have z2 := HZ2.out; have z3 := HZ3.out; have z4 := HZ4.out; have z5 := HZ5.out; have z6 := HZ6.out; have z7 := HZ7.out; omega))
  have HG_17 := Lib.hid (HG_13.out.on hb (by have z0 := HZ0.out; have z1 := HZ1.out; have z2 := HZ2.out; have z3 := HZ3.out; have z4 := HZ4.out; have z5 := HZ5.out; have z6 := HZ6.out; have z7 := HZ7.out; omega))
  have HIy := Lib.hid hO
  clear hO
  clear hb
  go_wp2_with fail
  refine (eqI_same _ _ _ _ _ _ _ _ _ _ _ Hx_15.out HIy.out HPN.out).mono ?_
  rintro z w9 ⟨rfl, dk, hdk⟩
  have hb : Below w8.heap.size w8 w9 := by rw [hdk]; exact bdrewN (Below.refl _ _) _
  clear hdk
  have HZ8 := Lib.hid hb.size
  have HB9 := Lib.hid (bthen HB8.out hb HB8.out.size)
  have HS_18 := Lib.hid (HS_14.out.on hb (by have z0 := HZ0.out; have z1 := HZ1.out; have z2 := HZ2.out; have z3 := HZ3.out; have z4 := HZ4.out; have z5 := HZ5.out; have z6 := HZ6.out; have z7 := HZ7.out; have z8 := HZ8.out; omega))
  have Hx_19 := Lib.hid (Hx_15.out.on hb (by have z0 := HZ0.out; have z1 := HZ1.out; have z2 := HZ2.out; have z3 := HZ3.out; have z4 := HZ4.out; have z5 := HZ5.out; have z6 := HZ6.out; have z7 := HZ7.out; have z8 := HZ8.out; omega))
  have Hv_20 := Lib.hid (Hv_16.out.on hb (by have z0 := HZ0.out; have z1 := HZ1.out; have z2 := HZ2.out; have z3 := HZ3.out; have z4 := HZ4.out; have z5 := HZ5.out; have z6 := HZ6.out; have z7 := HZ7.out; have z8 := HZ8.out; omega))
  have HG_21 := Lib.hid (HG_17.out.on hb (by have z0 := HZ0.out; have z1 := HZ1.out; have z2 := HZ2.out; have z3 := HZ3.out; have z4 := HZ4.out; have z5 := HZ5.out; have z6 := HZ6.out; have z7 := HZ7.out; have z8 := HZ8.out; omega))
  have Hy_22 := Lib.hid (HIy.out.on hb (Nat.le_refl _))
  clear hb
  go_wp2_with fail
  refine (copyI_any A' _ c' Q _ (iseq_at HQ.out HB9.out) HQN.out).mono ?_
  rintro z w10 ⟨gi10, rfl, hO, hb⟩
  have HZ9 := Lib.hid hb.size
  have HB10 := Lib.hid (bthen HB9.out hb HB9.out.size)
  have HS_23 := Lib.hid (HS_18.out.on hb (by have z0 := HZ0.out; have z1 := HZ1.out; have z2 := HZ2.out; have z3 := HZ3.out; have z4 := HZ4.out; have z5 := HZ5.out; have z6 := HZ6.out; have z7 := HZ7.out; have z8 := HZ8.out; have z9 := HZ9.out; omega))
  have Hx_24 := Lib.hid (Hx_19.out.on hb (by have z0 := HZ0.out; have z1 := HZ1.out; have z2 := HZ2.out; have z3 := HZ3.out; have z4 := HZ4.out; have z5 := HZ5.out; have z6 := HZ6.out; have z7 := HZ7.out; have z8 := HZ8.out; have z9 := HZ9.out; omega))
  have Hv_25 := Lib.hid (Hv_20.out.on hb (by have z0 := HZ0.out; have z1 := HZ1.out; have z2 := HZ2.out; have z3 := HZ3.out; have z4 := HZ4.out; have z5 := HZ5.out; have z6 := HZ6.out; have z7 := HZ7.out; have z8 := HZ8.out; have z9 := HZ9.out; omega))
  have HG_26 := Lib.hid (HG_21.out.on hb (by have z0 := HZ0.out; have z1 := HZ1.out; have z2 := HZ2.out; have z3 := HZ3.out; have z4 := HZ4.out; have z5 := HZ5.out; have z6 := HZ6.out; have z7 := HZ7.out; have z8 := HZ8.out; have z9 := HZ9.out; omega))
  have HIy := Lib.hid hO
  clear hO
  clear hb
  go_wp2_with fail
  refine (eqI_same _ _ _ _ _ _ _ _ _ _ _ Hv_25.out HIy.out HQN.out).mono ?_
  rintro z w11 ⟨rfl, dk, hdk⟩
  have hb : Below w10.heap.size w10 w11 := by rw [hdk]; exact bdrewN (Below.refl _ _) _
  clear hdk
  have HZ10 := Lib.hid hb.size
  have HB11 := Lib.hid (bthen HB10.out hb HB10.out.size)
  have HS_27 := Lib.hid (HS_23.out.on hb (by have z0 := HZ0.out; have z1 := HZ1.out; have z2 := HZ2.out; have z3 := HZ3.out; have z4 := HZ4.out; have z5 := HZ5.out; have z6 := HZ6.out; have z7 := HZ7.out; have z8 := HZ8.out; have z9 := HZ9.out; have z10 := HZ10.out; omega))
  have Hx_28 := Lib.hid (Hx_24.out.on hb (by have z0 := HZ0.out; have z1 := HZ1.out; have z2 := HZ2.out; have z3 := HZ3.out; have z4 := HZ4.out; have z5 := HZ5.out; have z6 := HZ6.out; have z7 := HZ7.out; have z8 := HZ8.out; have z9 := HZ9.out; have z10 := HZ10.out; omega))
  have Hv_29 := Lib.hid (Hv_25.out.on hb (by have z0 := HZ0.out; have z1 := HZ1.out; have z2 := HZ2.out; have z3 := HZ3.out; have z4 := HZ4.out; have z5 := HZ5.out; have z6 := HZ6.out; have z7 := HZ7.out; have z8 := HZ8.out; have z9 := HZ9.out; have z10 := HZ10.out; omega))
  have HG_30 := Lib.hid (HG_26.out.on hb (by have z0 := HZ0.out; have z1 := HZ1.out; have z2 := HZ2.out; have z3 := HZ3.out; have z4 := HZ4.out; have z5 := HZ5.out; have z6 := HZ6.out; have z7 := HZ7.out; have z8 := HZ8.out; have z9 := HZ9.out; have z10 := HZ10.out; omega))
  have Hy_31 := Lib.hid (HIy.out.on hb (Nat.le_refl _))
  clear hb
  go_wp2_with fail
  refine (markI_any _ _ _ _ _ _ _ Hx_28.out HPN.out).mono ?_
  rintro z w12 ⟨rfl, _, hf⟩
  have hb : Below w3.heap.size w11 w12 := hf.below (Nat.le_refl _) (by have z0 := HZ0.out; have z1 := HZ1.out; have z2 := HZ2.out; have z3 := HZ3.out; have z4 := HZ4.out; have z5 := HZ5.out; have z6 := HZ6.out; have z7 := HZ7.out; have z8 := HZ8.out; have z9 := HZ9.out; have z10 := HZ10.out; omega)
  have HZ11 := Lib.hid (Nat.le_of_eq hf.size.symm)
  have HB12 := Lib.hid (HB11.out.trans (hb.mono HB3.out.size))
  have HS_32 := Lib.hid (HS_27.out.far hf (by have z0 := HZ0.out; have z1 := HZ1.out; have z2 := HZ2.out; have z3 := HZ3.out; have z4 := HZ4.out; have z5 := HZ5.out; have z6 := HZ6.out; have z7 := HZ7.out; have z8 := HZ8.out; have z9 := HZ9.out; have z10 := HZ10.out; omega) (by have z0 := HZ0.out; have z1 := HZ1.out; have z2 := HZ2.out; have z3 := HZ3.out; have z4 := HZ4.out; have z5 := HZ5.out; have z6 := HZ6.out; have z7 := HZ7.out; have z8 := HZ8.out; have z9 := HZ9.out; have z10 := HZ10.out; omega))
  have Hv_33 := Lib.hid (Hv_29.out.far hf (by have z0 := HZ0.out; have z1 := HZ1.out; have z2 := HZ2.out; have z3 := HZ3.out; have z4 := HZ4.out; have z5 := HZ5.out; have z6 := HZ6.out; have z7 := HZ7.out; have z8 := HZ8.out; have z9 := HZ9.out; have z10 := HZ10.out; omega) (by have z0 := HZ0.out; have z1 := HZ1.out; have z2 := HZ2.out; have z3 := HZ3.out; have z4 := HZ4.out; have z5 := HZ5.out; have z6 := HZ6.out; have z7 := HZ7.out; have z8 := HZ8.out; have z9 := HZ9.out; have z10 := HZ10.out; omega))
  have HG_34 := Lib.hid (HG_30.out.far hf (by have z0 := HZ0.out; have z1 := HZ1.out; have z2 := HZ2.out; have z3 := HZ3.out; have z4 := HZ4.out; have z5 := HZ5.out; have z6 := HZ6.out; have z7 := HZ7.out; have z8 := HZ8.out; have z9 := HZ9.out; have z10 := HZ10.out; omega) (by have z0 := HZ0.out; have z1 := HZ1.out; have z2 := HZ2.out; have z3 := HZ3.out; have z4 := HZ4.out; have z5 := HZ5.out; have z6 := HZ6.out; have z7 := HZ7.out; have z8 := HZ8.out; have z9 := HZ9.out; have z10 := HZ10.out; omega))
  clear hb hf
  go_wp2_with fail
  refine (markI_pos _ _ _ _ _ _ _ _ (by omega) Hv_33.out HQN.out (by omega)).mono ?_
  rintro z w13 ⟨⟨m2, rfl, hmm2⟩, hf⟩
  have hb : Below w4.heap.size w12 w13 := hf.below (Nat.le_refl _) (by have z0 := HZ0.out; have z1 := HZ1.out; have z2 := HZ2.out; have z3 := HZ3.out; have z4 := HZ4.out; have z5 := HZ5.out; have z6 := HZ6.out; have z7 := HZ7.out; have z8 := HZ8.out; have z9 := HZ9.out; have z10 := HZ10.out; have z11 := HZ11.out; omega)
  have HZ12 := Lib.hid (Nat.le_of_eq hf.size.symm)
  have HB13 := Lib.hid (HB12.out.trans (hb.mono HB4.out.size))
  have HS_35 := Lib.hid (HS_32.out.far hf (by have z0 := HZ0.out; have z1 := HZ1.out; have z2 := HZ2.out; have z3 := HZ3.out; have z4 := HZ4.out; have z5 := HZ5.out; have z6 := HZ6.out; have z7 := HZ7.out; have z8 := HZ8.out; have z9 := HZ9.out; have z10 := HZ10.out; have z11 := HZ11.out; omega) (by have z0 := HZ0.out; have z1 := HZ1.out; have z2 := HZ2.out; have z3 := HZ3.out; have z4 := HZ4.out; have z5 := HZ5.out; have z6 := HZ6.out; have z7 := HZ7.out; have z8 := HZ8.out; have z9 := HZ9.out; have z10 := HZ10.out; have z11 := HZ11.out; omega))
  have HG_36 := Lib.hid (HG_34.out.far hf (by have z0 := HZ0.out; have z1 := HZ1.out; have z2 := HZ2.out; have z3 := HZ3.out; have z4 := HZ4.out; have z5 := HZ5.out; have z6 := HZ6.out; have z7 := HZ7.out; have z8 := HZ8.out; have z9 := HZ9.out; have z10 := HZ10.out; have z11 := HZ11.out; omega) (by have z0 := HZ0.out; have z1 := HZ1.out; have z2 := HZ2.out; have z3 := HZ3.out; have z4 := HZ4.out; have z5 := HZ5.out; have z6 := HZ6.out; have z7 := HZ7.out; have z8 := HZ8.out; have z9 := HZ9.out; have z10 := HZ10.out; have z11 := HZ11.out; omega))
  clear hb hf
  go_wp2_with fail
  refine (eqI_same _ _ _ _ _ _ _ _ _ _ _ HG_36.out HS_35.out HN.out).mono ?_
  rintro z w14 ⟨rfl, dk, hdk⟩
  have hb : Below w13.heap.size w13 w14 := by rw [hdk]; exact bdrewN (Below.refl _ _) _
  clear hdk
  have HZ13 := Lib.hid hb.size
  have HB14 := Lib.hid (bthen HB13.out hb HB13.out.size)
  have HS_37 := Lib.hid (HS_35.out.on hb (by have z0 := HZ0.out; have z1 := HZ1.out; have z2 := HZ2.out; have z3 := HZ3.out; have z4 := HZ4.out; have z5 := HZ5.out; have z6 := HZ6.out; have z7 := HZ7.out; have z8 := HZ8.out; have z9 := HZ9.out; have z10 := HZ10.out; have z11 := HZ11.out; have z12 := HZ12.out; have z13 := HZ13.out; omega))
  have HG_38 := Lib.hid (HG_36.out.on hb (by have z0 := HZ0.out; have z1 := HZ1.out; have z2 := HZ2.out; have z3 := HZ3.out; have z4 := HZ4.out; have z5 := HZ5.out; have z6 := HZ6.out; have z7 := HZ7.out; have z8 := HZ8.out; have z9 := HZ9.out; have z10 := HZ10.out; have z11 := HZ11.out; have z12 := HZ12.out; have z13 := HZ13.out; omega))
  clear hb
  go_wp2_with fail
  refine (markI_any _ _ _ _ _ _ _ HG_38.out HN.out).mono ?_
  rintro z w15 ⟨rfl, hO, hf⟩
  have hb : Below w5.heap.size w14 w15 := hf.below (Nat.le_refl _) (by have z0 := HZ0.out; have z1 := HZ1.out; have z2 := HZ2.out; have z3 := HZ3.out; have z4 := HZ4.out; have z5 := HZ5.out; have z6 := HZ6.out; have z7 := HZ7.out; have z8 := HZ8.out; have z9 := HZ9.out; have z10 := HZ10.out; have z11 := HZ11.out; have z12 := HZ12.out; have z13 := HZ13.out; omega)
  have HZ14 := Lib.hid (Nat.le_of_eq hf.size.symm)
  have HB15 := Lib.hid (HB14.out.trans (hb.mono HB5.out.size))
  have HS_39 := Lib.hid (HS_37.out.far hf (by have z0 := HZ0.out; have z1 := HZ1.out; have z2 := HZ2.out; have z3 := HZ3.out; have z4 := HZ4.out; have z5 := HZ5.out; have z6 := HZ6.out; have z7 := HZ7.out; have z8 := HZ8.out; have z9 := HZ9.out; have z10 := HZ10.out; have z11 := HZ11.out; have z12 := HZ12.out; have z13 := HZ13.out; omega) (by have z0 := HZ0.out; have z1 := HZ1.out; have z2 := HZ2.out; have z3 := HZ3.out; have z4 := HZ4.out; have z5 := HZ5.out; have z6 := HZ6.out; have z7 := HZ7.out; have z8 := HZ8.out; have z9 := HZ9.out; have z10 := HZ10.out; have z11 := HZ11.out; have z12 := HZ12.out; have z13 := HZ13.out; omega))
  have HMK := Lib.hid hO
  clear hb hf hO
  go_wp2_with fail
  refine (heldI_any _ _ _ _ _ _ HMK.out HN.out).mono ?_
  rintro z w' ⟨rfl, rfl⟩
  go_wp2_with fail
  refine (copyI_any A _ c P _ (iseq_at HP.out HB15.out) HPN.out).mono ?_
  rintro z w16 ⟨gi16, rfl, hO, hb⟩
  have HZ15 := Lib.hid hb.size
  have HB16 := Lib.hid (bthen HB15.out hb HB15.out.size)
  have HS_40 := Lib.hid (HS_39.out.on hb (by have z0 := HZ0.out; have z1 := HZ1.out; have z2 := HZ2.out; have z3 := HZ3.out; have z4 := HZ4.out; have z5 := HZ5.out; have z6 := HZ6.out; have z7 := HZ7.out; have z8 := HZ8.out; have z9 := HZ9.out; have z10 := HZ10.out; have z11 := HZ11.out; have z12 := HZ12.out; have z13 := HZ13.out; have z14 := HZ14.out; have z15 := HZ15.out; omega))
  have HG_41 := Lib.hid (HMK.out.on hb (by have z0 := HZ0.out; have z1 := HZ1.out; have z2 := HZ2.out; have z3 := HZ3.out; have z4 := HZ4.out; have z5 := HZ5.out; have z6 := HZ6.out; have z7 := HZ7.out; have z8 := HZ8.out; have z9 := HZ9.out; have z10 := HZ10.out; have z11 := HZ11.out; have z12 := HZ12.out; have z13 := HZ13.out; have z14 := HZ14.out; have z15 := HZ15.out; omega))
  have HIy := Lib.hid hO
  clear hO
  clear hb
  go_wp2_with fail
  refine (copyI_any A' _ c' Q _ (iseq_at HQ.out HB16.out) HQN.out).mono ?_
  rintro z w17 ⟨gi17, rfl, hO, hb⟩
  have HZ16 := Lib.hid hb.size
  have HB17 := Lib.hid (bthen HB16.out hb HB16.out.size)
  have HS_42 := Lib.hid (HS_40.out.on hb (by have z0 := HZ0.out; have z1 := HZ1.out; have z2 := HZ2.out; have z3 := HZ3.out; have z4 := HZ4.out; have z5 := HZ5.out; have z6 := HZ6.out; have z7 := HZ7.out; have z8 := HZ8.out; have z9 := HZ9.out; have z10 := HZ10.out; have z11 := HZ11.out; have z12 := HZ12.out; have z13 := HZ13.out; have z14 := HZ14.out; have z15 := HZ15.out; have z16 := HZ16.out; omega))
  have HG_43 := Lib.hid (HG_41.out.on hb (by have z0 := HZ0.out; have z1 := HZ1.out; have z2 := HZ2.out; have z3 := HZ3.out; have z4 := HZ4.out; have z5 := HZ5.out; have z6 := HZ6.out; have z7 := HZ7.out; have z8 := HZ8.out; have z9 := HZ9.out; have z10 := HZ10.out; have z11 := HZ11.out; have z12 := HZ12.out; have z13 := HZ13.out; have z14 := HZ14.out; have z15 := HZ15.out; have z16 := HZ16.out; omega))
  have Hy_44 := Lib.hid (HIy.out.on hb (Nat.le_refl _))
  have HIz := Lib.hid hO
  clear hO
  clear hb
  go_wp2_with fail
  refine (kept_impl _ _ _ _ _ _ _ _ P Q _ Hy_44.out (by have z0 := HZ0.out; have z1 := HZ1.out; have z2 := HZ2.out; have z3 := HZ3.out; have z4 := HZ4.out; have z5 := HZ5.out; have z6 := HZ6.out; have z7 := HZ7.out; have z8 := HZ8.out; have z9 := HZ9.out; have z10 := HZ10.out; have z11 := HZ11.out; have z12 := HZ12.out; have z13 := HZ13.out; have z14 := HZ14.out; have z15 := HZ15.out; have z16 := HZ16.out; omega) HPN.out HIz.out (Nat.le_refl _) HQN.out).mono ?_
  rintro z w18 ⟨AH, cH, rfl, hO, hb⟩
  have HZ17 := Lib.hid hb.size
  have HB18 := Lib.hid (bthen HB17.out hb HB17.out.size)
  have HS_45 := Lib.hid (HS_42.out.on hb (by have z0 := HZ0.out; have z1 := HZ1.out; have z2 := HZ2.out; have z3 := HZ3.out; have z4 := HZ4.out; have z5 := HZ5.out; have z6 := HZ6.out; have z7 := HZ7.out; have z8 := HZ8.out; have z9 := HZ9.out; have z10 := HZ10.out; have z11 := HZ11.out; have z12 := HZ12.out; have z13 := HZ13.out; have z14 := HZ14.out; have z15 := HZ15.out; have z16 := HZ16.out; have z17 := HZ17.out; omega))
  have HG_46 := Lib.hid (HG_43.out.on hb (by have z0 := HZ0.out; have z1 := HZ1.out; have z2 := HZ2.out; have z3 := HZ3.out; have z4 := HZ4.out; have z5 := HZ5.out; have z6 := HZ6.out; have z7 := HZ7.out; have z8 := HZ8.out; have z9 := HZ9.out; have z10 := HZ10.out; have z11 := HZ11.out; have z12 := HZ12.out; have z13 := HZ13.out; have z14 := HZ14.out; have z15 := HZ15.out; have z16 := HZ16.out; have z17 := HZ17.out; omega))
  have Hy_47 := Lib.hid (Hy_44.out.on hb (by have z0 := HZ0.out; have z1 := HZ1.out; have z2 := HZ2.out; have z3 := HZ3.out; have z4 := HZ4.out; have z5 := HZ5.out; have z6 := HZ6.out; have z7 := HZ7.out; have z8 := HZ8.out; have z9 := HZ9.out; have z10 := HZ10.out; have z11 := HZ11.out; have z12 := HZ12.out; have z13 := HZ13.out; have z14 := HZ14.out; have z15 := HZ15.out; have z16 := HZ16.out; have z17 := HZ17.out; omega))
  have Hz_48 := Lib.hid (HIz.out.on hb (Nat.le_refl _))
  have HRH := Lib.hid hO
  clear hO
  clear hb
  go_wp2_with fail
  refine (eqI_same _ _ _ _ _ _ _ _ _ _ _ HRH.out HS_45.out HN.out).mono ?_
  rintro z w19 ⟨rfl, dk, hdk⟩
  have hb : Below w18.heap.size w18 w19 := by rw [hdk]; exact bdrewN (Below.refl _ _) _
  clear hdk
  have HZ18 := Lib.hid hb.size
  have HB19 := Lib.hid (bthen HB18.out hb HB18.out.size)
  have HS_49 := Lib.hid (HS_45.out.on hb (by have z0 := HZ0.out; have z1 := HZ1.out; have z2 := HZ2.out; have z3 := HZ3.out; have z4 := HZ4.out; have z5 := HZ5.out; have z6 := HZ6.out; have z7 := HZ7.out; have z8 := HZ8.out; have z9 := HZ9.out; have z10 := HZ10.out; have z11 := HZ11.out; have z12 := HZ12.out; have z13 := HZ13.out; have z14 := HZ14.out; have z15 := HZ15.out; have z16 := HZ16.out; have z17 := HZ17.out; have z18 := HZ18.out; omega))
  have HG_50 := Lib.hid (HG_46.out.on hb (by have z0 := HZ0.out; have z1 := HZ1.out; have z2 := HZ2.out; have z3 := HZ3.out; have z4 := HZ4.out; have z5 := HZ5.out; have z6 := HZ6.out; have z7 := HZ7.out; have z8 := HZ8.out; have z9 := HZ9.out; have z10 := HZ10.out; have z11 := HZ11.out; have z12 := HZ12.out; have z13 := HZ13.out; have z14 := HZ14.out; have z15 := HZ15.out; have z16 := HZ16.out; have z17 := HZ17.out; have z18 := HZ18.out; omega))
  have HH_51 := Lib.hid (HRH.out.on hb (Nat.le_refl _))
  clear hb
  go_wp2_with fail
  refine (heldI_any _ _ _ _ _ _ HG_50.out HN.out).mono ?_
  rintro z w' ⟨rfl, rfl⟩
  go_wp2_with fail
  go_ret
  exact ⟨rfl, HB19.out⟩

/-! ### The row's step. -/
set_option maxRecDepth 100000 in
theorem lifted (os : Os) (started : os.Started) (H : Type) (enc : TypeId × Value → H) :
    ReturnsInHanded {} Try.checked os 8 .any (Rows.fnExactKeptDepthsSpec.pre6 enc Try.prog Try.f8 Rows.fnExactKeptDepthsRow.domain false) (Rows.fnExactKeptDepthsSpec.post enc Try.prog Try.f8 false true false false) := by
  refine returnsInHanded_of_change (C := Try.checked) own started (by kernel_rfl) Try.func8
    (ChangeSpec.witness6 (enc := enc) (C := Try.checked) false ⟨#[], #[.slice none 0 0, .slice none 0 0], []⟩ 8 (by kernel_rfl) (by kernel_rfl) (by kernel_rfl) (by kernel_rfl)) ?_
  intro W base args ds gs before hval0 hW hcnd _
  have hval : ∀ (j : Nat) t v, Try.f8.params[j]? = some t → args[j]? = some v → Value.okWide Try.prog W .any base t v := hval0
  have hW' := hW
  obtain ⟨p, q, hA0, hV, rfl, hfz, hnd⟩ := hW
  have hA : DataW.TrodAll enc Try.prog W 0 (fun _ => true) true Try.f8.params.toList args.toList ds p := hA0
  rw [Try.params8] at hA hval
  obtain ⟨v0, vs0, d0, ds0, p0, q0, hargs, rfl, rfl, h0, r0⟩ := trodAll_cons hA
  obtain ⟨v1, vs1, d1, ds1, p1, q1, rfl, rfl, rfl, h1, r1⟩ := trodAll_cons r0
  obtain ⟨rfl, rfl, rfl⟩ := trodAll_nil r1
  obtain rfl : args = #[v0, v1] := by cases args; simp_all
  obtain ⟨rfl, rfl⟩ := trodVars_none hV
  have k0 := h0
  have lt0 : ∀ x ∈ p0, x.block < W.heap.size := by obtain ⟨m, hm⟩ := k0; exact DataW.trod_lt m _ _ _ hm
  obtain ⟨A0, n0, c0, rfl⟩ := okWide_slice Try.underlying24 (hval 0 24 v0 rfl rfl)
  obtain ⟨m0, l0, w0⟩ := open_intsJ h0
  have k1 := h1
  have lt1 : ∀ x ∈ p1, x.block < W.heap.size := by obtain ⟨m, hm⟩ := k1; exact DataW.trod_lt m _ _ _ hm
  obtain ⟨A1, n1, c1, rfl⟩ := okWide_slice Try.underlying24 (hval 1 24 v1 rfl rfl)
  obtain ⟨m1, l1, w1⟩ := open_intsJ h1
  clear hA0 hval0
  refine (walk A0 n0 c0 l0 A1 n1 c1 l1 W w0 m0 w1 m1).mono fun e W1 ⟨he, bel⟩ => ?_
  subst he
  exact ⟨_, rfl, _, _, _, [], _, [], hW', trodAll_mk1 (shut_bool Try.underlying4 _), (trodAll_cons_mk (Below.trod laidOut (by kernel_rfl) (of_decide_eq_true (by kernel_rfl)) k0 bel lt0) (trodAll_cons_mk (Below.trod laidOut (by kernel_rfl) (of_decide_eq_true (by kernel_rfl)) k1 bel lt1) trodAll_mk0)), rfl, bel.frame _, fun h => by cases h⟩

/-- The statement. -/
theorem proved : Rows.FnExactKeptDepthsSaid :=
  OpenClaim.holds_of_wide 8 Try.f8 rfl rfl rfl rfl rfl rfl rfl ⟨rfl, rfl, rfl, rfl, rfl⟩ rfl rfl rfl rfl rfl (by kernel_rfl) Try.func8 (by kernel_rfl)
    (of_decide_eq_true (by kernel_rfl)) (by unfold Func.isWrapper; first | (rw [if_pos (by decide +kernel)]; kernel_rfl) | (rw [if_neg (by decide +kernel)]; exact ⟨rfl, rfl⟩))
    (fun os started H enc _ => lifted os started H enc)
#print axioms proved
end Go.Proofs.Ytjekmmekkfmplaa.fnExactKeptDepths
