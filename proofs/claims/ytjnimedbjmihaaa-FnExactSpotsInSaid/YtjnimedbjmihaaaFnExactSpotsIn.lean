/-
  Proved here: for every slice of spots and every box the law laws.FnExactSpotsIn returns true (impl.SpotsIn answers as spec.SpotsIn, writes into no argument, and its answer owns its memory), and both arguments read afterwards as before.
  Conditions: none beyond the row's own.
-/
import Derived.Test.YtjnimedbjmihaaaOpen
import Derived.Test.YtjnimedbjmihaaaIni
namespace Go.Proofs.Ytjnimedbjmihaaa.fnExactSpotsIn
open Go.Joins Go.ChangeShapes Go.WideShapes Go.ChangeAt Go.RowKit Go.Deep
set_option linter.unusedVariables false

theorem spots_at {w wi : World} {n : Nat} {A : Option Addr} {l : List (Int × Int)} (h : Spots w w.heap.size A n l) (hb : Below w.heap.size w wi) : Spots wi wi.heap.size A n l := spots_more h hb
/-! ### The walk: the Go text returns true, and nothing that was there has turned. -/
set_option maxRecDepth 20000 in
set_option maxHeartbeats 3200000 in
theorem walk (A : Option Addr) (n cap : Nat) (l : List (Int × Int)) (a b c d : Int) (w : World) (hs : Spots w w.heap.size A n l) (hm : n ≤ maxLen) :
    Calls Try.prog 12 #[.slice A n cap, .agg #[.int .i64 a, .int .i64 b, .int .i64 c, .int .i64 d]] w fun e w' => e = .returned (.bool true) ∧ Below w.heap.size w w' := by
  by_cases h0 : (1048576 : Int) < n
  · go_enter Try.func12, Try.ntmps12
    go_wp2_with (go_at_call 45; refine (sz_neg A n cap _ h0 hm).mono ?_; rintro e w' ⟨rfl, rfl⟩)
    go_ret
    exact ⟨rfl, (Below.refl _ _).alloc (Nat.le_refl _) _⟩
  have hle : n ≤ 1048576 := by omega
  obtain rfl := hs.1
  obtain ⟨W0, hW0⟩ : ∃ W0, W0 = w.alloc (.cells #[.int .i64 a, .int .i64 b, .int .i64 c, .int .i64 d] 65) := ⟨_, rfl⟩
  have HW : Hid (Below w.heap.size w W0 ∧ Has W0 w.heap.size [.int .i64 a, .int .i64 b, .int .i64 c, .int .i64 d] ∧ Spots W0 W0.heap.size A l.length l) := by
    rw [hW0]; exact ⟨(box1 (Below.refl _ _)).1, (box1 (Below.refl _ _)).2, spots_alloc hs _⟩
  have HX : Hid ((inX a b c d l).length ≤ 1048576) := by
    unfold Hid inX
    split
    · exact Nat.le_trans (inK_len _ _ _ _ _ _) hle
    · simp
  have a0 := HW.out.2.1.at_ 0 _ rfl
  have a1 := HW.out.2.1.at_ 1 _ rfl
  have a2 := HW.out.2.1.at_ 2 _ rfl
  have a3 := HW.out.2.1.at_ 3 _ rfl
  have HE := Lib.hid hW0
  clear hW0 hs h0
  go_enter Try.func12, Try.ntmps12
  go_wp2_with (go_at_call 45; refine (sz_pos A _ cap _ hle).mono ?_; rintro e w' ⟨rfl, rfl⟩)
  rw [← HE.out]
  have HK : Hid ((∀ W : World, Below W0.heap.size W0 W → W.cell? ⟨w.heap.size, 0, none⟩ = some (.int .i64 a) ∧ W.cell? ⟨w.heap.size, 1, none⟩ = some (.int .i64 b) ∧ W.cell? ⟨w.heap.size, 2, none⟩ = some (.int .i64 c) ∧ W.cell? ⟨w.heap.size, 3, none⟩ = some (.int .i64 d) ∧ Hid (Below W0.heap.size W0 W)) ∧ (∀ W : World, (W.cell? ⟨w.heap.size, 0, none⟩ = some (.int .i64 a) ∧ W.cell? ⟨w.heap.size, 1, none⟩ = some (.int .i64 b) ∧ W.cell? ⟨w.heap.size, 2, none⟩ = some (.int .i64 c) ∧ W.cell? ⟨w.heap.size, 3, none⟩ = some (.int .i64 d) ∧ Hid (Below W0.heap.size W0 W)) → Below W0.heap.size W0 W)) := Lib.hid ⟨fun W h => ⟨cell_next h (by assumption), cell_next h (by assumption), cell_next h (by assumption), cell_next h (by assumption), Lib.hid h⟩, fun W h => h.2.2.2.2.out⟩
  go_region_held3 (fun W => W.cell? ⟨w.heap.size, 0, none⟩ = some (.int .i64 a) ∧ W.cell? ⟨w.heap.size, 1, none⟩ = some (.int .i64 b) ∧ W.cell? ⟨w.heap.size, 2, none⟩ = some (.int .i64 c) ∧ W.cell? ⟨w.heap.size, 3, none⟩ = some (.int .i64 d) ∧ Hid (Below W0.heap.size W0 W)) (first | with_reducible assumption | with_reducible exact HK.out.1 _ (Below.refl _ _).drew | with_reducible exact HK.out.1 _ (bthen (HK.out.2 _ (by assumption)) hb (HK.out.2 _ (by assumption)).size) | with_reducible exact HK.out.1 _ ((HK.out.2 _ (by assumption)).alloc (HK.out.2 _ (by assumption)).size _) | with_reducible exact HK.out.1 _ (HBw.out.alloc HBw.out.size _) | with_reducible exact HK.out.1 _ ((Below.refl _ _).alloc (Nat.le_refl _) _) | with_reducible exact HK.out.1 _ ((HK.out.2 _ (by assumption)).alloc (HK.out.2 _ (by assumption)).size _).drew | with_reducible exact HK.out.1 _ (HBw.out.alloc HBw.out.size _).drew | with_reducible exact HK.out.1 _ ((Below.refl _ _).alloc (Nat.le_refl _) _).drew) ((first | (go_at_call 46; refine (copy_any A _ cap l _ (spots_at HW.out.2.2 (HK.out.2 _ (by assumption))) hle).mono ?_; rintro e w1 ⟨g1, rfl, hF, hb⟩; have HBw := Lib.hid (bthen (HK.out.2 _ (by assumption)) hb (HK.out.2 _ (by assumption)).size); have HF := Lib.hid (spots_of_fill hF rfl); clear hF; dsimp only) | (go_at_call 49; refine (toBox_any _ _ _ _ _).mono ?_; rintro e w1 ⟨rfl, hb⟩; have HBw := Lib.hid (bthen (HK.out.2 _ (by assumption)) hb (HK.out.2 _ (by assumption)).size); have HF2 := Lib.hid (spots_more HF.out hb); dsimp only) | (go_at_call 30; refine (in_spec _ _ l _ _ _ _ _ HF2.out hm).mono ?_; rintro e w1 ⟨Aw, cw, rfl, hI, hb⟩; have HIW := Lib.hid (hI.wide (HK.out.2 _ (by assumption)).size (Nat.le_refl _)); clear hI; dsimp only)))
  have HT1 := Lib.hid (HK.out.2 w1 (by assumption))
  clear HK
  go_wp2_with fail
  refine (copy_any A _ cap l _ (spots_at HW.out.2.2 HT1.out) hle).mono ?_
  rintro e w2 ⟨g2, rfl, hF, hb⟩
  have HF2 := Lib.hid hF
  have HT2 := Lib.hid (bthen HT1.out hb HT1.out.size)
  have HW2 := Lib.hid (HIW.out.on hb (Nat.le_refl _))
  clear hF hb
  have c0 := cell_next HT2.out a0
  have c1 := cell_next HT2.out a1
  have c2 := cell_next HT2.out a2
  have c3 := cell_next HT2.out a3
  go_wp2_with fail
  refine (toBox_any _ _ _ _ _).mono ?_
  rintro e w3 ⟨rfl, hb⟩
  have HF3 := Lib.hid (HF2.out.next hb)
  have HT3 := Lib.hid (bthen HT2.out hb HT2.out.size)
  have HW3 := Lib.hid (HW2.out.on hb (Nat.le_trans (Nat.le_of_lt (Nat.lt_of_le_of_lt HF2.out.low HF2.out.lt)) (Nat.le_refl _)))
  clear hb c0 c1 c2 c3
  go_wp2_with fail
  refine (in_impl _ _ l _ _ _ _ _ (spots_of_fill HF3.out rfl) hm).mono ?_
  rintro e w4 ⟨Ag, cg, rfl, hI, hb⟩
  have HG4 := Lib.hid hI
  have HF4 := Lib.hid (HF3.out.next hb)
  have HT4 := Lib.hid (bthen HT3.out hb HT3.out.size)
  have HL3 := Lib.hid HF3.out.lt
  have HL2 := Lib.hid HF3.out.low
  have HW4 := Lib.hid (HW3.out.on hb (Nat.le_of_lt (Nat.lt_of_le_of_lt HL2.out HL3.out)))
  have HZ4 := Lib.hid hb.size
  clear hI hb
  go_wp2_with fail
  refine (eqI_same _ _ _ _ _ _ _ _ _ _ _ HG4.out HW4.out HX.out).mono ?_
  rintro e w' ⟨rfl, k4, rfl⟩
  have HD4 := Lib.hid (bdrewN (Below.refl w4.heap.size w4) k4)
  go_wp2_with fail
  refine (copy_any A _ cap l _ (spots_at HW.out.2.2 (bthen HT4.out HD4.out HT4.out.size)) hle).mono ?_
  rintro e w5 ⟨g5, rfl, hF, hb⟩
  have HF5 := Lib.hid (spots_of_fill hF rfl)
  have hb5 := bthen HD4.out hb (Nat.le_refl _)
  have HT5 := Lib.hid (bthen HT4.out hb5 HT4.out.size)
  have HFx := Lib.hid (HF4.out.next hb5)
  have HW5 := Lib.hid (HW4.out.on hb5 (Nat.le_trans (Nat.le_of_lt (Nat.lt_of_le_of_lt HL2.out HL3.out)) HZ4.out))
  have HG5 := Lib.hid (HG4.out.on hb5 (Nat.le_refl _))
  have HZ5 := Lib.hid hb5.size
  clear hF hb hb5
  go_wp2_with fail
  refine (eq_same _ _ _ _ _ l _ (spots_of_fill HFx.out rfl) HF5.out hm).mono ?_
  rintro e w6 ⟨rfl, hb⟩
  have HT6 := Lib.hid (bthen HT5.out hb HT5.out.size)
  have HF6 := Lib.hid (HFx.out.next hb)
  have HZ6 := Lib.hid (Nat.le_trans HZ5.out hb.size)
  have HW6 := Lib.hid (HW5.out.on hb (Nat.le_trans (Nat.le_trans (Nat.le_of_lt (Nat.lt_of_le_of_lt HL2.out HL3.out)) HZ4.out) HZ5.out))
  have HG6 := Lib.hid (HG5.out.on hb HZ5.out)
  clear hb
  go_wp2_with fail
  refine (markS_any g2 _ _ _ _ l _ HF6.out hle).mono ?_
  rintro e w7 ⟨rfl, hf⟩
  have HT7 := Lib.hid (HT6.out.trans (hf.below (Nat.le_trans HT1.out.size HL2.out) HT6.out.size))
  have HW7 := Lib.hid (HW6.out.far hf (Nat.le_trans (Nat.le_trans (Nat.le_of_lt (Nat.lt_of_le_of_lt HL2.out HL3.out)) HZ4.out) HZ6.out) (.inl HL2.out))
  have HG7 := Lib.hid (HG6.out.far hf HZ6.out (.inr HL3.out))
  have HZ7 := Lib.hid (Nat.le_trans HZ6.out (Nat.le_of_eq hf.size.symm))
  clear hf
  have hn1 : 0 ≤ 2 * (l.length : Int) + 1 := by omega
  go_wp2_with fail
  refine (eqI_same _ _ _ _ _ _ _ _ _ _ _ HG7.out HW7.out HX.out).mono ?_
  rintro e w' ⟨rfl, k7, rfl⟩
  have HD7 := Lib.hid (bdrewN (Below.refl w7.heap.size w7) k7)
  clear hn1
  go_wp2_with fail
  refine (markI_any _ _ _ _ _ _ _ (HG7.out.on HD7.out HZ7.out) HX.out).mono ?_
  rintro e w8 ⟨rfl, hI, hf⟩
  have HT8 := Lib.hid ((HT7.out.trans (bdrewN (Below.refl _ _) k7)).trans (hf.below (Nat.le_trans HT3.out.size (Nat.le_refl _)) HT7.out.size))
  have HW8 := Lib.hid ((HW7.out.on HD7.out (Nat.le_trans (Nat.le_trans (Nat.le_of_lt (Nat.lt_of_le_of_lt HL2.out HL3.out)) HZ4.out) HZ7.out)).far hf (Nat.le_trans (Nat.le_trans (Nat.le_of_lt (Nat.lt_of_le_of_lt HL2.out HL3.out)) HZ4.out) HZ7.out) (.inl (Nat.le_of_lt (Nat.lt_of_le_of_lt HL2.out HL3.out))))
  have HM8 := Lib.hid hI
  have HZ8 := Lib.hid (Nat.le_trans HZ7.out (Nat.le_of_eq hf.size.symm))
  clear hI hf
  go_wp2_with fail
  refine (heldI_any _ _ _ _ _ _ HM8.out HX.out).mono ?_
  rintro e w' ⟨rfl, rfl⟩
  have hn2 : 0 ≤ ((inX a b c d l).length : Int) + 1 := by omega
  have c0 := cell_next HT8.out a0
  have c1 := cell_next HT8.out a1
  have c2 := cell_next HT8.out a2
  have c3 := cell_next HT8.out a3
  clear a0 a1 a2 a3
  go_wp2_with fail
  have HK : Hid ((∀ W : World, Below w8.heap.size w8 W → W.cell? ⟨w.heap.size, 0, none⟩ = some (.int .i64 a) ∧ W.cell? ⟨w.heap.size, 1, none⟩ = some (.int .i64 b) ∧ W.cell? ⟨w.heap.size, 2, none⟩ = some (.int .i64 c) ∧ W.cell? ⟨w.heap.size, 3, none⟩ = some (.int .i64 d) ∧ Hid (Below w8.heap.size w8 W)) ∧ (∀ W : World, (W.cell? ⟨w.heap.size, 0, none⟩ = some (.int .i64 a) ∧ W.cell? ⟨w.heap.size, 1, none⟩ = some (.int .i64 b) ∧ W.cell? ⟨w.heap.size, 2, none⟩ = some (.int .i64 c) ∧ W.cell? ⟨w.heap.size, 3, none⟩ = some (.int .i64 d) ∧ Hid (Below w8.heap.size w8 W)) → Below w8.heap.size w8 W)) := Lib.hid ⟨fun W h => ⟨cell_next h (by assumption), cell_next h (by assumption), cell_next h (by assumption), cell_next h (by assumption), Lib.hid h⟩, fun W h => h.2.2.2.2.out⟩
  go_region_held3 (fun W => W.cell? ⟨w.heap.size, 0, none⟩ = some (.int .i64 a) ∧ W.cell? ⟨w.heap.size, 1, none⟩ = some (.int .i64 b) ∧ W.cell? ⟨w.heap.size, 2, none⟩ = some (.int .i64 c) ∧ W.cell? ⟨w.heap.size, 3, none⟩ = some (.int .i64 d) ∧ Hid (Below w8.heap.size w8 W)) (first | with_reducible assumption | with_reducible exact HK.out.1 _ (Below.refl _ _).drew | with_reducible exact HK.out.1 _ (bthen (HK.out.2 _ (by assumption)) hb (HK.out.2 _ (by assumption)).size) | with_reducible exact HK.out.1 _ ((HK.out.2 _ (by assumption)).alloc (HK.out.2 _ (by assumption)).size _) | with_reducible exact HK.out.1 _ (HBw.out.alloc HBw.out.size _) | with_reducible exact HK.out.1 _ ((Below.refl _ _).alloc (Nat.le_refl _) _) | with_reducible exact HK.out.1 _ ((HK.out.2 _ (by assumption)).alloc (HK.out.2 _ (by assumption)).size _).drew | with_reducible exact HK.out.1 _ (HBw.out.alloc HBw.out.size _).drew | with_reducible exact HK.out.1 _ ((Below.refl _ _).alloc (Nat.le_refl _) _).drew) ((first | (go_at_call 46; refine (copy_any A _ cap l _ (spots_at HW.out.2.2 (bthen HT8.out (HK.out.2 _ (by assumption)) HT8.out.size)) hle).mono ?_; rintro e w9 ⟨g1, rfl, hF, hb⟩; have HBw := Lib.hid (bthen (HK.out.2 _ (by assumption)) hb (HK.out.2 _ (by assumption)).size); have HF9 := Lib.hid (spots_of_fill hF rfl); clear hF; dsimp only) | (go_at_call 49; refine (toBox_any _ _ _ _ _).mono ?_; rintro e w9 ⟨rfl, hb⟩; have HBw := Lib.hid (bthen (HK.out.2 _ (by assumption)) hb (HK.out.2 _ (by assumption)).size); have HF9 := Lib.hid (spots_more HF9.out hb); dsimp only) | (go_at_call 25; refine (in_impl _ _ l _ _ _ _ _ HF9.out hm).mono ?_; rintro e w9 ⟨Ah, ch, rfl, hI, hb⟩; have HH9 := Lib.hid hI; clear hI; dsimp only)))
  have HY9 := Lib.hid (HK.out.2 w9 (by assumption))
  clear HK c0 c1 c2 c3
  have HT9 := Lib.hid (bthen HT8.out HY9.out HT8.out.size)
  have HW9 := Lib.hid (HW8.out.on HY9.out (Nat.le_trans (Nat.le_trans (Nat.le_of_lt (Nat.lt_of_le_of_lt HL2.out HL3.out)) HZ4.out) HZ8.out))
  have HM9 := Lib.hid (HM8.out.on HY9.out HZ8.out)
  go_wp2_with fail
  refine (eqI_same _ _ _ _ _ _ _ _ _ _ _ HH9.out HW9.out HX.out).mono ?_
  rintro e w' ⟨rfl, k9, rfl⟩
  have HD9 := Lib.hid (bdrewN (Below.refl w9.heap.size w9) k9)
  go_wp2_with fail
  refine (heldI_any _ _ _ _ _ _ (HM9.out.on HD9.out (Nat.le_trans HZ8.out HY9.out.size)) HX.out).mono ?_
  rintro e w' ⟨rfl, rfl⟩
  go_wp2_with fail
  go_ret
  exact ⟨rfl, bthen HW.out.1 (bthen HT9.out HD9.out HT9.out.size) HW.out.1.size⟩

/-! ### The row's step. -/
set_option maxRecDepth 100000 in
theorem lifted (os : Os) (started : os.Started) (H : Type) (enc : TypeId × Value → H) :
    ReturnsInHanded {} Try.checked os 12 .any (Rows.fnExactSpotsInSpec.pre6 enc Try.prog Try.f12 Rows.fnExactSpotsInRow.domain false) (Rows.fnExactSpotsInSpec.post enc Try.prog Try.f12 false true false false) := by
  refine returnsInHanded_of_change (C := Try.checked) own started (by kernel_rfl) Try.func12
    (ChangeSpec.witness6 (enc := enc) (C := Try.checked) false ⟨#[], #[.slice none 0 0, .agg #[.int .i64 0, .int .i64 0, .int .i64 0, .int .i64 0]], []⟩ 8 (by kernel_rfl) (by kernel_rfl) (by kernel_rfl) (by kernel_rfl)) ?_
  intro W base args ds gs before hval0 hW hcnd _
  have hval : ∀ (j : Nat) t v, Try.f12.params[j]? = some t → args[j]? = some v → Value.okWide Try.prog W .any base t v := hval0
  have hW' := hW
  obtain ⟨p, q, hA0, hV, rfl, hfz, hnd⟩ := hW
  have hA : DataW.TrodAll enc Try.prog W 0 (fun _ => true) true Try.f12.params.toList args.toList ds p := hA0
  rw [Try.params12] at hA hval
  obtain ⟨v0, vs0, d0, ds0, p0, q0, hargs, rfl, rfl, h0, r0⟩ := trodAll_cons hA
  obtain ⟨v1, vs1, d1, ds1, p1, q1, rfl, rfl, rfl, h1, r1⟩ := trodAll_cons r0
  obtain ⟨rfl, rfl, rfl⟩ := trodAll_nil r1
  obtain rfl : args = #[v0, v1] := by cases args; simp_all
  obtain ⟨rfl, rfl⟩ := trodVars_none hV
  have k0 := h0
  have lt0 : ∀ x ∈ p0, x.block < W.heap.size := by obtain ⟨m, hm⟩ := k0; exact DataW.trod_lt m _ _ _ hm
  obtain ⟨A0, n0, c0, rfl⟩ := okWide_slice Try.underlying57 (hval 0 57 v0 rfl rfl)
  obtain ⟨m0, l0, w0⟩ := open_spots h0
  have k1 := h1
  have lt1 : ∀ x ∈ p1, x.block < W.heap.size := by obtain ⟨m, hm⟩ := k1; exact DataW.trod_lt m _ _ _ hm
  obtain ⟨a1, b1, c1, e1, rfl⟩ := open_box (hval 1 65 v1 rfl rfl) h1
  clear hA0 hval0
  refine (walk A0 n0 c0 l0 a1 b1 c1 e1 W w0 m0).mono fun e W1 ⟨he, bel⟩ => ?_
  subst he
  exact ⟨_, rfl, _, _, _, [], _, [], hW', trodAll_mk1 (shut_bool Try.underlying4 _), (trodAll_cons_mk (Below.trod laidOut (by kernel_rfl) (of_decide_eq_true (by kernel_rfl)) k0 bel lt0) (trodAll_cons_mk (Below.trod laidOut (by kernel_rfl) (of_decide_eq_true (by kernel_rfl)) k1 bel lt1) trodAll_mk0)), rfl, bel.frame _, fun h => by cases h⟩

/-- The statement. -/
theorem proved : Rows.FnExactSpotsInSaid :=
  OpenClaim.holds_of_wide 12 Try.f12 rfl rfl rfl rfl rfl rfl rfl ⟨rfl, rfl, rfl, rfl, rfl⟩ rfl rfl rfl rfl rfl (by kernel_rfl) Try.func12 (by kernel_rfl)
    (of_decide_eq_true (by kernel_rfl)) (by unfold Func.isWrapper; first | (rw [if_pos (by decide +kernel)]; kernel_rfl) | (rw [if_neg (by decide +kernel)]; exact ⟨rfl, rfl⟩))
    (fun os started H enc _ => lifted os started H enc)
#print axioms proved
end Go.Proofs.Ytjnimedbjmihaaa.fnExactSpotsIn
