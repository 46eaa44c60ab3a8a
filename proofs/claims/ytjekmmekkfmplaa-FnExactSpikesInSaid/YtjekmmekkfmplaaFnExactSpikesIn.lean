/-
  Proved here: for every slice of numbers and number the law laws.FnExactSpikesIn returns true (impl.SpikesIn answers as spec.SpikesIn, writes into no argument, and its answer owns its memory), and the arguments read afterwards as before.
  Conditions: none beyond the row's own.
-/
import Derived.Test.YtjekmmekkfmplaaJk
import Derived.Test.YtjekmmekkfmplaaIi
import Derived.Test.YtjekmmekkfmplaaSj
import Derived.Test.YtjekmmekkfmplaaEz
import Derived.Test.YtjekmmekkfmplaaEk
import Derived.Test.YtjekmmekkfmplaaEg
namespace Go.Proofs.Ytjekmmekkfmplaa.fnExactSpikesIn
open Go.Joins Go.ChangeShapes Go.WideShapes Go.ChangeAt Go.RowKit Go.Deep
set_option linter.unusedVariables false

/-! ### The walk: the Go text returns true, and nothing that was there has turned. -/
theorem ifun_block {w : World} {lo hi g n : Nat} {f : Nat → Int} (h : IFun w lo hi (some ⟨g, 0, none⟩) n f) : IFun w g (g + 1) (some ⟨g, 0, none⟩) n f := fun k hk => by
  obtain ⟨b, e, _, _, hc, hz⟩ := h k hk
  obtain rfl : g = b := by injection e with e; injection e
  exact ⟨g, rfl, Nat.le_refl _, Nat.lt_succ_self _, hc, hz⟩
theorem sk_two {T : List Int} {l : Int} {w w' : World} {e : Ending} (h : SkPost T l w e w') : ∃ (g C g' C' : Nat), e = .returned (.tuple #[.slice (some ⟨g, 0, none⟩) (upR T l).length C, .slice (some ⟨g', 0, none⟩) (dnR T l).length C', .bool (akB T l)]) ∧
    (w.heap.size ≤ g ∧ g < w'.heap.size ∧ w.heap.size ≤ g' ∧ g' < w'.heap.size ∧ g ≠ g') ∧ IFun w' g (g + 1) (some ⟨g, 0, none⟩) (upR T l).length (fun j => (upR T l).getD j 0) ∧ IFun w' g' (g' + 1) (some ⟨g', 0, none⟩) (dnR T l).length (fun j => (dnR T l).getD j 0) ∧ Below w.heap.size w w' := by
  obtain ⟨g, n, C, g', m, C', rfl, ht⟩ := h
  obtain rfl := col_lenJ ht.up
  obtain rfl := col_lenJ ht.dn
  have h1 := ht.up.1.lt g rfl
  have h2 := ht.dn.1.lt g' rfl
  refine ⟨g, C, g', C', rfl, ⟨h1.1, h1.2, h2.1, h2.2, fun e => ht.ne (by rw [e]; rfl)⟩, ifun_block (ifun_of_own ht.up.1), ifun_block (ifun_of_own ht.dn.1), ht.up.2⟩
theorem markI_kE (A : Option Addr) (n c lo hi : Nat) (f : Nat → Int) (w : World) (k : Int) (h0 : 0 ≤ k) (h1 : k ≤ 1000000000) (h : IFun w lo hi A n f) (hm : n ≤ 1048576) :
    Calls Try.prog 50 #[.slice A n c, .int .i64 k] w fun e w' => e = .returned (.int .i64 (k + n)) ∧ IFun w' lo hi A n (fun j => k + (j : Int)) ∧ Far lo hi w w' := by
  obtain ⟨m, rfl⟩ : ∃ m : Nat, k = m := ⟨k.toNat, by omega⟩
  refine (markI_from A n c lo hi m f w h hm (by omega)).mono ?_
  rintro e w' ⟨rfl, hi, hf⟩
  exact ⟨by rw [Int.natCast_add], hi.congr fun j _ => Int.natCast_add m j, hf⟩
theorem heldI_kE (A : Option Addr) (n c lo hi : Nat) (w : World) (k : Int) (h0 : 0 ≤ k) (h1 : k ≤ 1000000000) (h : IFun w lo hi A n (fun j => k + (j : Int))) (hm : n ≤ 1048576) :
    Calls Try.prog 51 #[.slice A n c, .int .i64 k] w fun e w' => e = .returned (.int .i64 (k + n)) ∧ w = w' := by
  obtain ⟨m, rfl⟩ : ∃ m : Nat, k = m := ⟨k.toNat, by omega⟩
  refine (heldI_from A n c lo hi m w (h.congr fun j _ => (Int.natCast_add m j).symm) hm (by omega)).mono ?_
  rintro e w' ⟨rfl, hw⟩
  exact ⟨by rw [Int.natCast_add], hw⟩
set_option maxRecDepth 20000 in
set_option maxHeartbeats 6400000 in
theorem walk (A : Option Addr) (n c : Nat) (P : List Int) (l : Int) (w : World) (hp : ISeq w w.heap.size A n P) (hpm : n ≤ maxLen) :
    Calls Try.prog 6 #[.slice A n c, .int .i64 l] w fun z w' => z = .returned (.bool true) ∧ Below w.heap.size w w' := by
  obtain rfl := hp.1
  by_cases hPn : (1048576 : Int) < P.length
  · go_enter Try.func6, Try.ntmps6
    go_wp2_with fail
    go_ret
    exact ⟨rfl, Below.refl _ _⟩
  have HP := Lib.hid hp
  have HPN : Hid (P.length ≤ 1048576) := Lib.hid (by omega)
  have HN1 : Hid ((upR P l).length ≤ 1048576) := Lib.hid (by have := upR_len P l; omega)
  have HN2 : Hid ((dnR P l).length ≤ 1048576) := Lib.hid (by have := dnR_len P l; omega)
  clear hp
  have HB0 := Lib.hid (Below.refl w.heap.size w)
  go_enter Try.func6, Try.ntmps6
  go_wp2_with fail
  refine (copyI_any A _ c P _ (iseq_at HP.out HB0.out) HPN.out).mono ?_
  rintro z w1 ⟨gi1, rfl, hO, hb⟩
  have HZ0 := Lib.hid hb.size
  have HB1 := Lib.hid (bthen HB0.out hb HB0.out.size)
  have HIs := Lib.hid hO
  clear hO
  clear hb
  go_wp2_with fail
  refine ((spikesIn_spec _ _ _ _ P l _ HIs.out (Nat.le_refl _) HPN.out).mono fun _ _ => sk_two).mono ?_
  rintro z w2 ⟨gS, CS, kS, DS, rfl, hG, hO1, hO2, hb⟩
  have HZ1 := Lib.hid hb.size
  have HB2 := Lib.hid (bthen HB1.out hb HB1.out.size)
  have Hs_1 := Lib.hid (HIs.out.on hb (Nat.le_refl _))
  have HGS := Lib.hid hG
  have HRS1 := Lib.hid hO1
  have HRS2 := Lib.hid hO2
  clear hG hO1 hO2
  clear hb
  go_wp2_with fail
  refine (copyI_any A _ c P _ (iseq_at HP.out HB2.out) HPN.out).mono ?_
  rintro z w3 ⟨gi3, rfl, hO, hb⟩
  have HZ2 := Lib.hid hb.size
  have HB3 := Lib.hid (bthen HB2.out hb HB2.out.size)
  have HS1_2 := Lib.hid (HRS1.out.on hb (by have z0 := HZ0.out; have z1 := HZ1.out; have z2 := HZ2.out; have x0 := HGS.out; omega))
  have HS2_3 := Lib.hid (HRS2.out.on hb (by have z0 := HZ0.out; have z1 := HZ1.out; have z2 := HZ2.out; have x0 := HGS.out; omega))
  have HIx := Lib.hid hO
  clear hO
  clear hb
  go_wp2_with fail
  refine ((spikesIn_impl _ _ _ _ P l _ HIx.out (Nat.le_refl _) HPN.out).mono fun _ _ => sk_two).mono ?_
  rintro z w4 ⟨gG, CG, kG, DG, rfl, hG, hO1, hO2, hb⟩
  have HZ3 := Lib.hid hb.size
  have HB4 := Lib.hid (bthen HB3.out hb HB3.out.size)
  have HS1_4 := Lib.hid (HS1_2.out.on hb (by have z0 := HZ0.out; have z1 := HZ1.out; have z2 := HZ2.out; have z3 := HZ3.out; have x0 := HGS.out; omega))
  have HS2_5 := Lib.hid (HS2_3.out.on hb (by have z0 := HZ0.out; have z1 := HZ1.out; have z2 := HZ2.out; have z3 := HZ3.out; have x0 := HGS.out; omega))
  have Hx_6 := Lib.hid (HIx.out.on hb (Nat.le_refl _))
  have HGG := Lib.hid hG
  have HRG1 := Lib.hid hO1
  have HRG2 := Lib.hid hO2
  clear hG hO1 hO2
  clear hb
  go_wp2_with fail
  refine (eqI_same _ _ _ _ _ _ _ _ _ _ _ HRG1.out HS1_4.out HN1.out).mono ?_
  rintro z w5 ⟨rfl, dk, hdk⟩
  have hb : Below w4.heap.size w4 w5 := by rw [hdk]; exact bdrewN (Below.refl _ _) _
  clear hdk
  have HZ4 := Lib.hid hb.size
  have HB5 := Lib.hid (bthen HB4.out hb HB4.out.size)
  have HS1_7 := Lib.hid (HS1_4.out.on hb (by have z0 := HZ0.out; have z1 := HZ1.out; have z2 := HZ2.out; have z3 := HZ3.out; have z4 := HZ4.out; have x0 := HGS.out; have x1 := HGG.out; omega))
  have HS2_8 := Lib.hid (HS2_5.out.on hb (by have z0 := HZ0.out; have z1 := HZ1.out; have z2 := HZ2.out; have z3 := HZ3.out; have z4 := HZ4.out; have x0 := HGS.out; have x1 := HGG.out; omega))
  have Hx_9 := Lib.hid (Hx_6.out.on hb (by have z0 := HZ0.out; have z1 := HZ1.out; have z2 := HZ2.out; have z3 := HZ3.out; have z4 := HZ4.out; have x0 := HGS.out; have x1 := HGG.out; omega))
  have HG1_10 := Lib.hid (HRG1.out.on hb (by have z0 := HZ0.out; have z1 := HZ1.out; have z2 := HZ2.out; have z3 := HZ3.out; have z4 := HZ4.out; have x0 := HGS.out; have x1 := HGG.out; omega))
  have HG2_11 := Lib.hid (HRG2.out.on hb (by have z0 := HZ0.out; have z1 := HZ1.out; have z2 := HZ2.out; have z3 := HZ3.out; have z4 := HZ4.out; have x0 := HGS.out; have x1 := HGG.out; omega))
  clear hb
  go_wp2_with fail
  refine (eqI_same _ _ _ _ _ _ _ _ _ _ _ HG2_11.out HS2_8.out HN2.out).mono ?_
  rintro z w6 ⟨rfl, dk, hdk⟩
  have hb : Below w5.heap.size w5 w6 := by rw [hdk]; exact bdrewN (Below.refl _ _) _
  clear hdk
  have HZ5 := Lib.hid hb.size
  have HB6 := Lib.hid (bthen HB5.out hb HB5.out.size)
  have HS1_12 := Lib.hid (HS1_7.out.on hb (by have z0 := HZ0.out; have z1 := HZ1.out; have z2 := HZ2.out; have z3 := HZ3.out; have z4 := HZ4.out; have z5 := HZ5.out; have x0 := HGS.out; have x1 := HGG.out; omega))
  have HS2_13 := Lib.hid (HS2_8.out.on hb (by have z0 := HZ0.out; have z1 := HZ1.out; have z2 := HZ2.out; have z3 := HZ3.out; have z4 := HZ4.out; have z5 := HZ5.out; have x0 := HGS.out; have x1 := HGG.out; omega))
  have Hx_14 := Lib.hid (Hx_9.out.on hb (by have z0 := HZ0.out; have z1 := HZ1.out; have z2 := HZ2.out; have z3 := HZ3.out; have z4 := HZ4.out; have z5 := HZ5.out; have x0 := HGS.out; have x1 := HGG.out; omega))
  have HG1_15 := Lib.hid (HG1_10.out.on hb (by have z0 := HZ0.out; have z1 := HZ1.out; have z2 := HZ2.out; have z3 := HZ3.out; have z4 := HZ4.out; have z5 := HZ5.out; have x0 := HGS.out; have x1 := HGG.out; omega))
  have HG2_16 := Lib.hid (HG2_11.out.on hb (by have z0 := HZ0.out; have z1 := HZ1.out; have z2 := HZ2.out; have z3 := HZ3.out; have z4 := HZ4.out; have z5 := HZ5.out; have x0 := HGS.out; have x1 := HGG.out; omega))
  clear hb
  go_wp2_with fail
  refine (copyI_any A _ c P _ (iseq_at HP.out HB6.out) HPN.out).mono ?_
  rintro z w7 ⟨gi7, rfl, hO, hb⟩
  have HZ6 := Lib.hid hb.size
  have HB7 := Lib.hid (bthen HB6.out hb HB6.out.size)
  have HS1_17 := Lib.hid (HS1_12.out.on hb (by have z0 := HZ0.out; have z1 := HZ1.out; have z2 := HZ2.out; have z3 := HZ3.out; have z4 := HZ4.out; have z5 := HZ5.out; have z6 := HZ6.out; have x0 := HGS.out; have x1 := HGG.out; omega))
  have HS2_18 := Lib.hid (HS2_13.out.on hb (by have z0 := HZ0.out; have z1 := HZ1.out; have z2 := HZ2.out; have z3 := HZ3.out; have z4 := HZ4.out; have z5 := HZ5.out; have z6 := HZ6.out; have x0 := HGS.out; have x1 := HGG.out; omega))
  have Hx_19 := Lib.hid (Hx_14.out.on hb (by have z0 := HZ0.out; have z1 := HZ1.out; have z2 := HZ2.out; have z3 := HZ3.out; have z4 := HZ4.out; have z5 := HZ5.out; have z6 := HZ6.out; have x0 := HGS.out; have x1 := HGG.out; omega))
  have HG1_20 := Lib.hid (HG1_15.out.on hb (by have z0 := HZ0.out; have z1 := HZ1.out; have z2 := HZ2.out; have z3 := HZ3.out; have z4 := HZ4.out; have z5 := HZ5.out; have z6 := HZ6.out; have x0 := HGS.out; have x1 := HGG.out; omega))
  have HG2_21 := Lib.hid (HG2_16.out.on hb (by have z0 := HZ0.out; have z1 := HZ1.out; have z2 := HZ2.out; have z3 := HZ3.out; have z4 := HZ4.out; have z5 := HZ5.out; have z6 := HZ6.out; have x0 := HGS.out; have x1 := HGG.out; omega))
  have HIy := Lib.hid hO
  clear hO
  clear hb
  go_wp2_with fail
  refine (eqI_same _ _ _ _ _ _ _ _ _ _ _ Hx_19.out HIy.out HPN.out).mono ?_
  rintro z w8 ⟨rfl, dk, hdk⟩
  have hb : Below w7.heap.size w7 w8 := by rw [hdk]; exact bdrewN (Below.refl _ _) _
  clear hdk
  have HZ7 := Lib.hid hb.size
  have HB8 := Lib.hid (bthen HB7.out hb HB7.out.size)
  have HS1_22 := Lib.hid (HS1_17.out.on hb (by have z0 := HZ0.out; have z1 := HZ1.out; have z2 := HZ2.out; have z3 := HZ3.out; have z4 := HZ4.out; have z5 := HZ5.out; have z6 := HZ6.out; have z7 := HZ7.out; have x0 := HGS.out; have x1 := HGG.out; omega))
  have HS2_23 := Lib.hid (HS2_18.out.on hb (by have z0 := HZ0.out; have z1 := HZ1.out; have z2 := HZ2.out; have z3 := HZ3.out; have z4 := HZ4.out; have z5 := HZ5.out; have z6 := HZ6.out; have z7 := HZ7.out; have x0 := HGS.out; have x1 := HGG.out; omega))
  have Hx_24 := Lib.hid (Hx_19.out.on hb (by have z0 := HZ0.out; have z1 := HZ1.out; have z2 := HZ2.out; have z3 := HZ3.out; have z4 := HZ4.out; have z5 := HZ5.out; have z6 := HZ6.out; have z7 := HZ7.out; have x0 := HGS.out; have x1 := HGG.out; omega))
  have HG1_25 := Lib.hid (HG1_20.out.on hb (by have z0 := HZ0.out; have z1 := HZ1.out; have z2 := HZ2.out; have z3 := HZ3.out; have z4 := HZ4.out; have z5 := HZ5.out; have z6 := HZ6.out; have z7 := HZ7.out; have x0 := HGS.out; have x1 := HGG.out; omega))
  have HG2_26 := Lib.hid (HG2_21.out.on hb (by have z0 := HZ0.out; have z1 := HZ1.out; have z2 := HZ2.out; have z3 := HZ3.out; have z4 := HZ4.out; have z5 := HZ5.out; have z6 := HZ6.out; have z7 := HZ7.out; have x0 := HGS.out; have x1 := HGG.out; omega))
  have Hy_27 := Lib.hid (HIy.out.on hb (Nat.le_refl _))
  clear hb
  go_wp2_with fail
  refine (markI_any _ _ _ _ _ _ _ Hx_24.out HPN.out).mono ?_
  rintro z w9 ⟨rfl, _, hf⟩
  have hb : Below w2.heap.size w8 w9 := hf.below (Nat.le_refl _) (by have z0 := HZ0.out; have z1 := HZ1.out; have z2 := HZ2.out; have z3 := HZ3.out; have z4 := HZ4.out; have z5 := HZ5.out; have z6 := HZ6.out; have z7 := HZ7.out; have x0 := HGS.out; have x1 := HGG.out; omega)
  have HZ8 := Lib.hid (Nat.le_of_eq hf.size.symm)
  have HB9 := Lib.hid (HB8.out.trans (hb.mono HB2.out.size))
  have HS1_28 := Lib.hid (HS1_22.out.far hf (by have z0 := HZ0.out; have z1 := HZ1.out; have z2 := HZ2.out; have z3 := HZ3.out; have z4 := HZ4.out; have z5 := HZ5.out; have z6 := HZ6.out; have z7 := HZ7.out; have x0 := HGS.out; have x1 := HGG.out; omega) (by have z0 := HZ0.out; have z1 := HZ1.out; have z2 := HZ2.out; have z3 := HZ3.out; have z4 := HZ4.out; have z5 := HZ5.out; have z6 := HZ6.out; have z7 := HZ7.out; have x0 := HGS.out; have x1 := HGG.out; omega))
  have HS2_29 := Lib.hid (HS2_23.out.far hf (by have z0 := HZ0.out; have z1 := HZ1.out; have z2 := HZ2.out; have z3 := HZ3.out; have z4 := HZ4.out; have z5 := HZ5.out; have z6 := HZ6.out; have z7 := HZ7.out; have x0 := HGS.out; have x1 := HGG.out; omega) (by have z0 := HZ0.out; have z1 := HZ1.out; have z2 := HZ2.out; have z3 := HZ3.out; have z4 := HZ4.out; have z5 := HZ5.out; have z6 := HZ6.out; have z7 := HZ7.out; have x0 := HGS.out; have x1 := HGG.out; omega))
  have HG1_30 := Lib.hid (HG1_25.out.far hf (by have z0 := HZ0.out; have z1 := HZ1.out; have z2 := HZ2.out; have z3 := HZ3.out; have z4 := HZ4.out; have z5 := HZ5.out; have z6 := HZ6.out; have z7 := HZ7.out; have x0 := HGS.out; have x1 := HGG.out; omega) (by have z0 := HZ0.out; have z1 := HZ1.out; have z2 := HZ2.out; have z3 := HZ3.out; have z4 := HZ4.out; have z5 := HZ5.out; have z6 := HZ6.out; have z7 := HZ7.out; have x0 := HGS.out; have x1 := HGG.out; omega))
  have HG2_31 := Lib.hid (HG2_26.out.far hf (by have z0 := HZ0.out; have z1 := HZ1.out; have z2 := HZ2.out; have z3 := HZ3.out; have z4 := HZ4.out; have z5 := HZ5.out; have z6 := HZ6.out; have z7 := HZ7.out; have x0 := HGS.out; have x1 := HGG.out; omega) (by have z0 := HZ0.out; have z1 := HZ1.out; have z2 := HZ2.out; have z3 := HZ3.out; have z4 := HZ4.out; have z5 := HZ5.out; have z6 := HZ6.out; have z7 := HZ7.out; have x0 := HGS.out; have x1 := HGG.out; omega))
  clear hb hf
  go_wp2_with fail
  refine (eqI_same _ _ _ _ _ _ _ _ _ _ _ HG1_30.out HS1_28.out HN1.out).mono ?_
  rintro z w10 ⟨rfl, dk, hdk⟩
  have hb : Below w9.heap.size w9 w10 := by rw [hdk]; exact bdrewN (Below.refl _ _) _
  clear hdk
  have HZ9 := Lib.hid hb.size
  have HB10 := Lib.hid (bthen HB9.out hb HB9.out.size)
  have HS1_32 := Lib.hid (HS1_28.out.on hb (by have z0 := HZ0.out; have z1 := HZ1.out; have z2 := HZ2.out; have z3 := HZ3.out; have z4 := HZ4.out; have z5 := HZ5.out; have z6 := HZ6.out; have z7 := HZ7.out; have z8 := HZ8.out; have z9 := HZ9.out; have x0 := HGS.out; have x1 := HGG.out; omega))
  have HS2_33 := Lib.hid (HS2_29.out.on hb (by have z0 := HZ0.out; have z1 := HZ1.out; have z2 := HZ2.out; have z3 := HZ3.out; have z4 := HZ4.out; have z5 := HZ5.out; have z6 := HZ6.out; have z7 := HZ7.out; have z8 := HZ8.out; have z9 := HZ9.out; have x0 := HGS.out; have x1 := HGG.out; omega))
  have HG1_34 := Lib.hid (HG1_30.out.on hb (by have z0 := HZ0.out; have z1 := HZ1.out; have z2 := HZ2.out; have z3 := HZ3.out; have z4 := HZ4.out; have z5 := HZ5.out; have z6 := HZ6.out; have z7 := HZ7.out; have z8 := HZ8.out; have z9 := HZ9.out; have x0 := HGS.out; have x1 := HGG.out; omega))
  have HG2_35 := Lib.hid (HG2_31.out.on hb (by have z0 := HZ0.out; have z1 := HZ1.out; have z2 := HZ2.out; have z3 := HZ3.out; have z4 := HZ4.out; have z5 := HZ5.out; have z6 := HZ6.out; have z7 := HZ7.out; have z8 := HZ8.out; have z9 := HZ9.out; have x0 := HGS.out; have x1 := HGG.out; omega))
  clear hb
  go_wp2_with fail
  refine (eqI_same _ _ _ _ _ _ _ _ _ _ _ HG2_35.out HS2_33.out HN2.out).mono ?_
  rintro z w11 ⟨rfl, dk, hdk⟩
  have hb : Below w10.heap.size w10 w11 := by rw [hdk]; exact bdrewN (Below.refl _ _) _
  clear hdk
  have HZ10 := Lib.hid hb.size
  have HB11 := Lib.hid (bthen HB10.out hb HB10.out.size)
  have HS1_36 := Lib.hid (HS1_32.out.on hb (by have z0 := HZ0.out; have z1 := HZ1.out; have z2 := HZ2.out; have z3 := HZ3.out; have z4 := HZ4.out; have z5 := HZ5.out; have z6 := HZ6.out; have z7 := HZ7.out; have z8 := HZ8.out; have z9 := HZ9.out; have z10 := HZ10.out; have x0 := HGS.out; have x1 := HGG.out; omega))
  have HS2_37 := Lib.hid (HS2_33.out.on hb (by have z0 := HZ0.out; have z1 := HZ1.out; have z2 := HZ2.out; have z3 := HZ3.out; have z4 := HZ4.out; have z5 := HZ5.out; have z6 := HZ6.out; have z7 := HZ7.out; have z8 := HZ8.out; have z9 := HZ9.out; have z10 := HZ10.out; have x0 := HGS.out; have x1 := HGG.out; omega))
  have HG1_38 := Lib.hid (HG1_34.out.on hb (by have z0 := HZ0.out; have z1 := HZ1.out; have z2 := HZ2.out; have z3 := HZ3.out; have z4 := HZ4.out; have z5 := HZ5.out; have z6 := HZ6.out; have z7 := HZ7.out; have z8 := HZ8.out; have z9 := HZ9.out; have z10 := HZ10.out; have x0 := HGS.out; have x1 := HGG.out; omega))
  have HG2_39 := Lib.hid (HG2_35.out.on hb (by have z0 := HZ0.out; have z1 := HZ1.out; have z2 := HZ2.out; have z3 := HZ3.out; have z4 := HZ4.out; have z5 := HZ5.out; have z6 := HZ6.out; have z7 := HZ7.out; have z8 := HZ8.out; have z9 := HZ9.out; have z10 := HZ10.out; have x0 := HGS.out; have x1 := HGG.out; omega))
  clear hb
  go_wp2_with fail
  refine (markI_kE _ _ _ _ _ _ _ _ (by omega) (by have z := HN1.out; omega) HG1_38.out HN1.out).mono ?_
  rintro z w12 ⟨rfl, hO, hf⟩
  have hb : Below w3.heap.size w11 w12 := hf.below (by have z0 := HZ0.out; have z1 := HZ1.out; have z2 := HZ2.out; have z3 := HZ3.out; have z4 := HZ4.out; have z5 := HZ5.out; have z6 := HZ6.out; have z7 := HZ7.out; have z8 := HZ8.out; have z9 := HZ9.out; have z10 := HZ10.out; have x0 := HGS.out; have x1 := HGG.out; omega) (by have z0 := HZ0.out; have z1 := HZ1.out; have z2 := HZ2.out; have z3 := HZ3.out; have z4 := HZ4.out; have z5 := HZ5.out; have z6 := HZ6.out; have z7 := HZ7.out; have z8 := HZ8.out; have z9 := HZ9.out; have z10 := HZ10.out; have x0 := HGS.out; have x1 := HGG.out; omega)
  have HZ11 := Lib.hid (Nat.le_of_eq hf.size.symm)
  have HB12 := Lib.hid (HB11.out.trans (hb.mono HB3.out.size))
  have HS1_40 := Lib.hid (HS1_36.out.far hf (by have z0 := HZ0.out; have z1 := HZ1.out; have z2 := HZ2.out; have z3 := HZ3.out; have z4 := HZ4.out; have z5 := HZ5.out; have z6 := HZ6.out; have z7 := HZ7.out; have z8 := HZ8.out; have z9 := HZ9.out; have z10 := HZ10.out; have x0 := HGS.out; have x1 := HGG.out; omega) (by have z0 := HZ0.out; have z1 := HZ1.out; have z2 := HZ2.out; have z3 := HZ3.out; have z4 := HZ4.out; have z5 := HZ5.out; have z6 := HZ6.out; have z7 := HZ7.out; have z8 := HZ8.out; have z9 := HZ9.out; have z10 := HZ10.out; have x0 := HGS.out; have x1 := HGG.out; omega))
  have HS2_41 := Lib.hid (HS2_37.out.far hf (by have z0 := HZ0.out; have z1 := HZ1.out; have z2 := HZ2.out; have z3 := HZ3.out; have z4 := HZ4.out; have z5 := HZ5.out; have z6 := HZ6.out; have z7 := HZ7.out; have z8 := HZ8.out; have z9 := HZ9.out; have z10 := HZ10.out; have x0 := HGS.out; have x1 := HGG.out; omega) (by have z0 := HZ0.out; have z1 := HZ1.out; have z2 := HZ2.out; have z3 := HZ3.out; have z4 := HZ4.out; have z5 := HZ5.out; have z6 := HZ6.out; have z7 := HZ7.out; have z8 := HZ8.out; have z9 := HZ9.out; have z10 := HZ10.out; have x0 := HGS.out; have x1 := HGG.out; omega))
  have HMK1 := Lib.hid hO
  have HG2_42 := Lib.hid (HG2_39.out.far hf (by have z0 := HZ0.out; have z1 := HZ1.out; have z2 := HZ2.out; have z3 := HZ3.out; have z4 := HZ4.out; have z5 := HZ5.out; have z6 := HZ6.out; have z7 := HZ7.out; have z8 := HZ8.out; have z9 := HZ9.out; have z10 := HZ10.out; have x0 := HGS.out; have x1 := HGG.out; omega) (by have z0 := HZ0.out; have z1 := HZ1.out; have z2 := HZ2.out; have z3 := HZ3.out; have z4 := HZ4.out; have z5 := HZ5.out; have z6 := HZ6.out; have z7 := HZ7.out; have z8 := HZ8.out; have z9 := HZ9.out; have z10 := HZ10.out; have x0 := HGS.out; have x1 := HGG.out; omega))
  clear hb hf hO
  go_wp2_with fail
  refine (markI_kE _ _ _ _ _ _ _ _ (by omega) (by have z := HN1.out; omega) HG2_42.out HN2.out).mono ?_
  rintro z w13 ⟨rfl, hO, hf⟩
  have hb : Below w3.heap.size w12 w13 := hf.below (by have z0 := HZ0.out; have z1 := HZ1.out; have z2 := HZ2.out; have z3 := HZ3.out; have z4 := HZ4.out; have z5 := HZ5.out; have z6 := HZ6.out; have z7 := HZ7.out; have z8 := HZ8.out; have z9 := HZ9.out; have z10 := HZ10.out; have z11 := HZ11.out; have x0 := HGS.out; have x1 := HGG.out; omega) (by have z0 := HZ0.out; have z1 := HZ1.out; have z2 := HZ2.out; have z3 := HZ3.out; have z4 := HZ4.out; have z5 := HZ5.out; have z6 := HZ6.out; have z7 := HZ7.out; have z8 := HZ8.out; have z9 := HZ9.out; have z10 := HZ10.out; have z11 := HZ11.out; have x0 := HGS.out; have x1 := HGG.out; omega)
  have HZ12 := Lib.hid (Nat.le_of_eq hf.size.symm)
  have HB13 := Lib.hid (HB12.out.trans (hb.mono HB3.out.size))
  have HS1_43 := Lib.hid (HS1_40.out.far hf (by have z0 := HZ0.out; have z1 := HZ1.out; have z2 := HZ2.out; have z3 := HZ3.out; have z4 := HZ4.out; have z5 := HZ5.out; have z6 := HZ6.out; have z7 := HZ7.out; have z8 := HZ8.out; have z9 := HZ9.out; have z10 := HZ10.out; have z11 := HZ11.out; have x0 := HGS.out; have x1 := HGG.out; omega) (by have z0 := HZ0.out; have z1 := HZ1.out; have z2 := HZ2.out; have z3 := HZ3.out; have z4 := HZ4.out; have z5 := HZ5.out; have z6 := HZ6.out; have z7 := HZ7.out; have z8 := HZ8.out; have z9 := HZ9.out; have z10 := HZ10.out; have z11 := HZ11.out; have x0 := HGS.out; have x1 := HGG.out; omega))
  have HS2_44 := Lib.hid (HS2_41.out.far hf (by have z0 := HZ0.out; have z1 := HZ1.out; have z2 := HZ2.out; have z3 := HZ3.out; have z4 := HZ4.out; have z5 := HZ5.out; have z6 := HZ6.out; have z7 := HZ7.out; have z8 := HZ8.out; have z9 := HZ9.out; have z10 := HZ10.out; have z11 := HZ11.out; have x0 := HGS.out; have x1 := HGG.out; omega) (by have z0 := HZ0.out; have z1 := HZ1.out; have z2 := HZ2.out; have z3 := HZ3.out; have z4 := HZ4.out; have z5 := HZ5.out; have z6 := HZ6.out; have z7 := HZ7.out; have z8 := HZ8.out; have z9 := HZ9.out; have z10 := HZ10.out; have z11 := HZ11.out; have x0 := HGS.out; have x1 := HGG.out; omega))
  have HG1_45 := Lib.hid (HMK1.out.far hf (by have z0 := HZ0.out; have z1 := HZ1.out; have z2 := HZ2.out; have z3 := HZ3.out; have z4 := HZ4.out; have z5 := HZ5.out; have z6 := HZ6.out; have z7 := HZ7.out; have z8 := HZ8.out; have z9 := HZ9.out; have z10 := HZ10.out; have z11 := HZ11.out; have x0 := HGS.out; have x1 := HGG.out; omega) (by have z0 := HZ0.out; have z1 := HZ1.out; have z2 := HZ2.out; have z3 := HZ3.out; have z4 := HZ4.out; have z5 := HZ5.out; have z6 := HZ6.out; have z7 := HZ7.out; have z8 := HZ8.out; have z9 := HZ9.out; have z10 := HZ10.out; have z11 := HZ11.out; have x0 := HGS.out; have x1 := HGG.out; omega))
  have HMK2 := Lib.hid hO
  clear hb hf hO
  go_wp2_with fail
  refine (heldI_kE _ _ _ _ _ _ _ (by omega) (by have z := HN1.out; omega) HG1_45.out HN1.out).mono ?_
  rintro z w' ⟨rfl, rfl⟩
  go_wp2_with fail
  refine (heldI_kE _ _ _ _ _ _ _ (by omega) (by have z := HN1.out; omega) HMK2.out HN2.out).mono ?_
  rintro z w' ⟨rfl, rfl⟩
  go_wp2_with fail
  refine (copyI_any A _ c P _ (iseq_at HP.out HB13.out) HPN.out).mono ?_
  rintro z w14 ⟨gi14, rfl, hO, hb⟩
  have HZ13 := Lib.hid hb.size
  have HB14 := Lib.hid (bthen HB13.out hb HB13.out.size)
  have HS1_46 := Lib.hid (HS1_43.out.on hb (by have z0 := HZ0.out; have z1 := HZ1.out; have z2 := HZ2.out; have z3 := HZ3.out; have z4 := HZ4.out; have z5 := HZ5.out; have z6 := HZ6.out; have z7 := HZ7.out; have z8 := HZ8.out; have z9 := HZ9.out; have z10 := HZ10.out; have z11 := HZ11.out; have z12 := HZ12.out; have z13 := HZ13.out; have x0 := HGS.out; have x1 := HGG.out; omega))
  have HS2_47 := Lib.hid (HS2_44.out.on hb (by have z0 := HZ0.out; have z1 := HZ1.out; have z2 := HZ2.out; have z3 := HZ3.out; have z4 := HZ4.out; have z5 := HZ5.out; have z6 := HZ6.out; have z7 := HZ7.out; have z8 := HZ8.out; have z9 := HZ9.out; have z10 := HZ10.out; have z11 := HZ11.out; have z12 := HZ12.out; have z13 := HZ13.out; have x0 := HGS.out; have x1 := HGG.out; omega))
  have HG1_48 := Lib.hid (HG1_45.out.on hb (by have z0 := HZ0.out; have z1 := HZ1.out; have z2 := HZ2.out; have z3 := HZ3.out; have z4 := HZ4.out; have z5 := HZ5.out; have z6 := HZ6.out; have z7 := HZ7.out; have z8 := HZ8.out; have z9 := HZ9.out; have z10 := HZ10.out; have z11 := HZ11.out; have z12 := HZ12.out; have z13 := HZ13.out; have x0 := HGS.out; have x1 := HGG.out; omega))
  have HG2_49 := Lib.hid (HMK2.out.on hb (by have z0 := HZ0.out; have z1 := HZ1.out; have z2 := HZ2.out; have z3 := HZ3.out; have z4 := HZ4.out; have z5 := HZ5.out; have z6 := HZ6.out; have z7 := HZ7.out; have z8 := HZ8.out; have z9 := HZ9.out; have z10 := HZ10.out; have z11 := HZ11.out; have z12 := HZ12.out; have z13 := HZ13.out; have x0 := HGS.out; have x1 := HGG.out; omega))
  have HIy := Lib.hid hO
  clear hO
  clear hb
  go_wp2_with fail
  refine ((spikesIn_impl _ _ _ _ P l _ HIy.out (Nat.le_refl _) HPN.out).mono fun _ _ => sk_two).mono ?_
  rintro z w15 ⟨gH, CH, kH, DH, rfl, hG, hO1, hO2, hb⟩
  have HZ14 := Lib.hid hb.size
  have HB15 := Lib.hid (bthen HB14.out hb HB14.out.size)
  have HS1_50 := Lib.hid (HS1_46.out.on hb (by have z0 := HZ0.out; have z1 := HZ1.out; have z2 := HZ2.out; have z3 := HZ3.out; have z4 := HZ4.out; have z5 := HZ5.out; have z6 := HZ6.out; have z7 := HZ7.out; have z8 := HZ8.out; have z9 := HZ9.out; have z10 := HZ10.out; have z11 := HZ11.out; have z12 := HZ12.out; have z13 := HZ13.out; have z14 := HZ14.out; have x0 := HGS.out; have x1 := HGG.out; omega))
  have HS2_51 := Lib.hid (HS2_47.out.on hb (by have z0 := HZ0.out; have z1 := HZ1.out; have z2 := HZ2.out; have z3 := HZ3.out; have z4 := HZ4.out; have z5 := HZ5.out; have z6 := HZ6.out; have z7 := HZ7.out; have z8 := HZ8.out; have z9 := HZ9.out; have z10 := HZ10.out; have z11 := HZ11.out; have z12 := HZ12.out; have z13 := HZ13.out; have z14 := HZ14.out; have x0 := HGS.out; have x1 := HGG.out; omega))
  have HG1_52 := Lib.hid (HG1_48.out.on hb (by have z0 := HZ0.out; have z1 := HZ1.out; have z2 := HZ2.out; have z3 := HZ3.out; have z4 := HZ4.out; have z5 := HZ5.out; have z6 := HZ6.out; have z7 := HZ7.out; have z8 := HZ8.out; have z9 := HZ9.out; have z10 := HZ10.out; have z11 := HZ11.out; have z12 := HZ12.out; have z13 := HZ13.out; have z14 := HZ14.out; have x0 := HGS.out; have x1 := HGG.out; omega))
  have HG2_53 := Lib.hid (HG2_49.out.on hb (by have z0 := HZ0.out; have z1 := HZ1.out; have z2 := HZ2.out; have z3 := HZ3.out; have z4 := HZ4.out; have z5 := HZ5.out; have z6 := HZ6.out; have z7 := HZ7.out; have z8 := HZ8.out; have z9 := HZ9.out; have z10 := HZ10.out; have z11 := HZ11.out; have z12 := HZ12.out; have z13 := HZ13.out; have z14 := HZ14.out; have x0 := HGS.out; have x1 := HGG.out; omega))
  have Hy_54 := Lib.hid (HIy.out.on hb (Nat.le_refl _))
  have HGH := Lib.hid hG
  have HRH1 := Lib.hid hO1
  have HRH2 := Lib.hid hO2
  clear hG hO1 hO2
  clear hb
  go_wp2_with fail
  refine (eqI_same _ _ _ _ _ _ _ _ _ _ _ HRH1.out HS1_50.out HN1.out).mono ?_
  rintro z w16 ⟨rfl, dk, hdk⟩
  have hb : Below w15.heap.size w15 w16 := by rw [hdk]; exact bdrewN (Below.refl _ _) _
  clear hdk
  have HZ15 := Lib.hid hb.size
  have HB16 := Lib.hid (bthen HB15.out hb HB15.out.size)
  have HS1_55 := Lib.hid (HS1_50.out.on hb (by have z0 := HZ0.out; have z1 := HZ1.out; have z2 := HZ2.out; have z3 := HZ3.out; have z4 := HZ4.out; have z5 := HZ5.out; have z6 := HZ6.out; have z7 := HZ7.out; have z8 := HZ8.out; have z9 := HZ9.out; have z10 := HZ10.out; have z11 := HZ11.out; have z12 := HZ12.out; have z13 := HZ13.out; have z14 := HZ14.out; have z15 := HZ15.out; have x0 := HGS.out; have x1 := HGG.out; have x2 := HGH.out; omega))
  have HS2_56 := Lib.hid (HS2_51.out.on hb (by have z0 := HZ0.out; have z1 := HZ1.out; have z2 := HZ2.out; have z3 := HZ3.out; have z4 := HZ4.out; have z5 := HZ5.out; have z6 := HZ6.out; have z7 := HZ7.out; have z8 := HZ8.out; have z9 := HZ9.out; have z10 := HZ10.out; have z11 := HZ11.out; have z12 := HZ12.out; have z13 := HZ13.out; have z14 := HZ14.out; have z15 := HZ15.out; have x0 := HGS.out; have x1 := HGG.out; have x2 := HGH.out; omega))
  have HG1_57 := Lib.hid (HG1_52.out.on hb (by have z0 := HZ0.out; have z1 := HZ1.out; have z2 := HZ2.out; have z3 := HZ3.out; have z4 := HZ4.out; have z5 := HZ5.out; have z6 := HZ6.out; have z7 := HZ7.out; have z8 := HZ8.out; have z9 := HZ9.out; have z10 := HZ10.out; have z11 := HZ11.out; have z12 := HZ12.out; have z13 := HZ13.out; have z14 := HZ14.out; have z15 := HZ15.out; have x0 := HGS.out; have x1 := HGG.out; have x2 := HGH.out; omega))
  have HG2_58 := Lib.hid (HG2_53.out.on hb (by have z0 := HZ0.out; have z1 := HZ1.out; have z2 := HZ2.out; have z3 := HZ3.out; have z4 := HZ4.out; have z5 := HZ5.out; have z6 := HZ6.out; have z7 := HZ7.out; have z8 := HZ8.out; have z9 := HZ9.out; have z10 := HZ10.out; have z11 := HZ11.out; have z12 := HZ12.out; have z13 := HZ13.out; have z14 := HZ14.out; have z15 := HZ15.out; have x0 := HGS.out; have x1 := HGG.out; have x2 := HGH.out; omega))
  have HH1_59 := Lib.hid (HRH1.out.on hb (by have z0 := HZ0.out; have z1 := HZ1.out; have z2 := HZ2.out; have z3 := HZ3.out; have z4 := HZ4.out; have z5 := HZ5.out; have z6 := HZ6.out; have z7 := HZ7.out; have z8 := HZ8.out; have z9 := HZ9.out; have z10 := HZ10.out; have z11 := HZ11.out; have z12 := HZ12.out; have z13 := HZ13.out; have z14 := HZ14.out; have z15 := HZ15.out; have x0 := HGS.out; have x1 := HGG.out; have x2 := HGH.out; omega))
  have HH2_60 := Lib.hid (HRH2.out.on hb (by have z0 := HZ0.out; have z1 := HZ1.out; have z2 := HZ2.out; have z3 := HZ3.out; have z4 := HZ4.out; have z5 := HZ5.out; have z6 := HZ6.out; have z7 := HZ7.out; have z8 := HZ8.out; have z9 := HZ9.out; have z10 := HZ10.out; have z11 := HZ11.out; have z12 := HZ12.out; have z13 := HZ13.out; have z14 := HZ14.out; have z15 := HZ15.out; have x0 := HGS.out; have x1 := HGG.out; have x2 := HGH.out; omega))
  clear hb
  go_wp2_with fail
  refine (eqI_same _ _ _ _ _ _ _ _ _ _ _ HH2_60.out HS2_56.out HN2.out).mono ?_
  rintro z w17 ⟨rfl, dk, hdk⟩
  have hb : Below w16.heap.size w16 w17 := by rw [hdk]; exact bdrewN (Below.refl _ _) _
  clear hdk
  have HZ16 := Lib.hid hb.size
  have HB17 := Lib.hid (bthen HB16.out hb HB16.out.size)
  have HS1_61 := Lib.hid (HS1_55.out.on hb (by have z0 := HZ0.out; have z1 := HZ1.out; have z2 := HZ2.out; have z3 := HZ3.out; have z4 := HZ4.out; have z5 := HZ5.out; have z6 := HZ6.out; have z7 := HZ7.out; have z8 := HZ8.out; have z9 := HZ9.out; have z10 := HZ10.out; have z11 := HZ11.out; have z12 := HZ12.out; have z13 := HZ13.out; have z14 := HZ14.out; have z15 := HZ15.out; have z16 := HZ16.out; have x0 := HGS.out; have x1 := HGG.out; have x2 := HGH.out; omega))
  have HS2_62 := Lib.hid (HS2_56.out.on hb (by have z0 := HZ0.out; have z1 := HZ1.out; have z2 := HZ2.out; have z3 := HZ3.out; have z4 := HZ4.out; have z5 := HZ5.out; have z6 := HZ6.out; have z7 := HZ7.out; have z8 := HZ8.out; have z9 := HZ9.out; have z10 := HZ10.out; have z11 := HZ11.out; have z12 := HZ12.out; have z13 := HZ13.out; have z14 := HZ14.out; have z15 := HZ15.out; have z16 := HZ16.out; have x0 := HGS.out; have x1 := HGG.out; have x2 := HGH.out; omega))
  have HG1_63 := Lib.hid (HG1_57.out.on hb (by have z0 := HZ0.out; have z1 := HZ1.out; have z2 := HZ2.out; have z3 := HZ3.out; have z4 := HZ4.out; have z5 := HZ5.out; have z6 := HZ6.out; have z7 := HZ7.out; have z8 := HZ8.out; have z9 := HZ9.out; have z10 := HZ10.out; have z11 := HZ11.out; have z12 := HZ12.out; have z13 := HZ13.out; have z14 := HZ14.out; have z15 := HZ15.out; have z16 := HZ16.out; have x0 := HGS.out; have x1 := HGG.out; have x2 := HGH.out; omega))
  have HG2_64 := Lib.hid (HG2_58.out.on hb (by have z0 := HZ0.out; have z1 := HZ1.out; have z2 := HZ2.out; have z3 := HZ3.out; have z4 := HZ4.out; have z5 := HZ5.out; have z6 := HZ6.out; have z7 := HZ7.out; have z8 := HZ8.out; have z9 := HZ9.out; have z10 := HZ10.out; have z11 := HZ11.out; have z12 := HZ12.out; have z13 := HZ13.out; have z14 := HZ14.out; have z15 := HZ15.out; have z16 := HZ16.out; have x0 := HGS.out; have x1 := HGG.out; have x2 := HGH.out; omega))
  have HH1_65 := Lib.hid (HH1_59.out.on hb (by have z0 := HZ0.out; have z1 := HZ1.out; have z2 := HZ2.out; have z3 := HZ3.out; have z4 := HZ4.out; have z5 := HZ5.out; have z6 := HZ6.out; have z7 := HZ7.out; have z8 := HZ8.out; have z9 := HZ9.out; have z10 := HZ10.out; have z11 := HZ11.out; have z12 := HZ12.out; have z13 := HZ13.out; have z14 := HZ14.out; have z15 := HZ15.out; have z16 := HZ16.out; have x0 := HGS.out; have x1 := HGG.out; have x2 := HGH.out; omega))
  have HH2_66 := Lib.hid (HH2_60.out.on hb (by have z0 := HZ0.out; have z1 := HZ1.out; have z2 := HZ2.out; have z3 := HZ3.out; have z4 := HZ4.out; have z5 := HZ5.out; have z6 := HZ6.out; have z7 := HZ7.out; have z8 := HZ8.out; have z9 := HZ9.out; have z10 := HZ10.out; have z11 := HZ11.out; have z12 := HZ12.out; have z13 := HZ13.out; have z14 := HZ14.out; have z15 := HZ15.out; have z16 := HZ16.out; have x0 := HGS.out; have x1 := HGG.out; have x2 := HGH.out; omega))
  clear hb
  go_wp2_with fail
  refine (heldI_kE _ _ _ _ _ _ _ (by omega) (by have z := HN1.out; omega) HG1_63.out HN1.out).mono ?_
  rintro z w' ⟨rfl, rfl⟩
  go_wp2_with fail
  refine (heldI_kE _ _ _ _ _ _ _ (by omega) (by have z := HN1.out; omega) HG2_64.out HN2.out).mono ?_
  rintro z w' ⟨rfl, rfl⟩
  go_wp2_with fail
  go_ret
  exact ⟨rfl, HB17.out⟩

/-! ### The row's step. -/
set_option maxRecDepth 100000 in
theorem lifted (os : Os) (started : os.Started) (H : Type) (enc : TypeId × Value → H) :
    ReturnsInHanded {} Try.checked os 6 .any (Rows.fnExactSpikesInSpec.pre6 enc Try.prog Try.f6 Rows.fnExactSpikesInRow.domain false) (Rows.fnExactSpikesInSpec.post enc Try.prog Try.f6 false true false false) := by
  refine returnsInHanded_of_change (C := Try.checked) own started (by kernel_rfl) Try.func6
    (ChangeSpec.witness6 (enc := enc) (C := Try.checked) false ⟨#[], #[.slice none 0 0, .int .i64 0], []⟩ 8 (by kernel_rfl) (by kernel_rfl) (by kernel_rfl) (by kernel_rfl)) ?_
  intro W base args ds gs before hval0 hW hcnd _
  have hval : ∀ (j : Nat) t v, Try.f6.params[j]? = some t → args[j]? = some v → Value.okWide Try.prog W .any base t v := hval0
  have hW' := hW
  obtain ⟨p, q, hA0, hV, rfl, hfz, hnd⟩ := hW
  have hA : DataW.TrodAll enc Try.prog W 0 (fun _ => true) true Try.f6.params.toList args.toList ds p := hA0
  rw [Try.params6] at hA hval
  obtain ⟨v0, vs0, d0, ds0, p0, q0, hargs, rfl, rfl, h0, r0⟩ := trodAll_cons hA
  obtain ⟨v1, vs1, d1, ds1, p1, q1, rfl, rfl, rfl, h1, r1⟩ := trodAll_cons r0
  obtain ⟨rfl, rfl, rfl⟩ := trodAll_nil r1
  obtain rfl : args = #[v0, v1] := by cases args; simp_all
  obtain ⟨rfl, rfl⟩ := trodVars_none hV
  have k0 := h0
  have lt0 : ∀ x ∈ p0, x.block < W.heap.size := by obtain ⟨m, hm⟩ := k0; exact DataW.trod_lt m _ _ _ hm
  obtain ⟨A0, n0, c0, rfl⟩ := okWide_slice Try.underlying24 (hval 0 24 v0 rfl rfl)
  obtain ⟨m0, l0, w0⟩ := open_intsJ h0
  have k1 := h1
  have lt1 : ∀ x ∈ p1, x.block < W.heap.size := by obtain ⟨m, hm⟩ := k1; exact DataW.trod_lt m _ _ _ hm
  obtain ⟨x1, rfl⟩ := open_num (hval 1 3 v1 rfl rfl) h1
  clear hA0 hval0
  refine (walk A0 n0 c0 l0 x1 W w0 m0).mono fun e W1 ⟨he, bel⟩ => ?_
  subst he
  exact ⟨_, rfl, _, _, _, [], _, [], hW', trodAll_mk1 (shut_bool Try.underlying4 _), (trodAll_cons_mk (Below.trod laidOut (by kernel_rfl) (of_decide_eq_true (by kernel_rfl)) k0 bel lt0) (trodAll_cons_mk (Below.trod laidOut (by kernel_rfl) (of_decide_eq_true (by kernel_rfl)) k1 bel lt1) trodAll_mk0)), rfl, bel.frame _, fun h => by cases h⟩

/-- The statement. -/
theorem proved : Rows.FnExactSpikesInSaid :=
  OpenClaim.holds_of_wide 6 Try.f6 rfl rfl rfl rfl rfl rfl rfl ⟨rfl, rfl, rfl, rfl, rfl⟩ rfl rfl rfl rfl rfl (by kernel_rfl) Try.func6 (by kernel_rfl)
    (of_decide_eq_true (by kernel_rfl)) (by unfold Func.isWrapper; first | (rw [if_pos (by decide +kernel)]; kernel_rfl) | (rw [if_neg (by decide +kernel)]; exact ⟨rfl, rfl⟩))
    (fun os started H enc _ => lifted os started H enc)
#print axioms proved
end Go.Proofs.Ytjekmmekkfmplaa.fnExactSpikesIn
