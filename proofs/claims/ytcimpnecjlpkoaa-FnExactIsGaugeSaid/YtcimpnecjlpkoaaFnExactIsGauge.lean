/-
  Proved here: for every gauge the law laws.FnExactIsGauge returns true (impl.IsGauge answers as spec.IsGauge and writes into no argument), and the argument reads afterwards as before.
  Conditions: none beyond the row's own.
-/
import Derived.Test.YtcimpnecjlpkoaaOg
import Derived.Test.YtcimpnecjlpkoaaGl
import Derived.Test.YtcimpnecjlpkoaaGauge
namespace Go.Proofs.Ytcimpnecjlpkoaa.fnExactIsGauge
open Go.Joins Go.ChangeShapes Go.WideShapes Go.ChangeAt Go.RowKit Go.Deep
set_option linter.unusedVariables false

/-! ### The walk: the Go text returns true, and nothing that was there has turned. -/
set_option maxHeartbeats 3200000 in
theorem walk (id ze : Int) (nm : ByteArray) (A : Option Addr) (n c : Nat) (l : List (Int × Int)) (w : World) (hs : Spots w w.heap.size A n l) (hm : n ≤ maxLen) (hn : nm.size ≤ maxLen) :
    Calls Try.prog 5 #[.agg #[.int .i64 id, .string nm, .int .i64 ze, .slice A n c]] w fun e w' => e = .returned (.bool true) ∧ Below w.heap.size w w' := by
  have HX := Lib.hid (box1 (cs := #[.int .i64 id, .string nm, .int .i64 ze, .slice A n c]) (T := 62) (Below.refl _ _) (w := w))
  by_cases h0 : (1048576 : Int) < (nm.size : Int) + n
  · go_enter Try.func5, Try.ntmps5
    go_wp2_with fail
    refine (szG_neg _ _ _ _ _ _ _ _ (by omega) (by omega) hn hm h0).mono ?_
    rintro e w1 ⟨rfl, hb⟩
    have HT := Lib.hid (bthen HX.out.1 hb HX.out.1.size)
    clear hb
    go_wp2_with fail
    go_ret
    exact ⟨rfl, HT.out⟩
  have hle : n ≤ 1048576 := by omega
  have hsz : 0 ≤ (1048576 : Int) - nm.size - n := by omega
  obtain rfl := hs.1
  have HS := Lib.hid (spots_alloc hs (.cells #[.int .i64 id, .string nm, .int .i64 ze, .slice A l.length c] 62))
  clear hs
  go_enter Try.func5, Try.ntmps5
  go_wp2_with fail
  refine (szG_pos _ _ _ _ _ _ _ _ (by omega) (by omega)).mono ?_
  rintro e w1 ⟨rfl, hb⟩
  have HB1 := Lib.hid (bthen HX.out.1 hb HX.out.1.size)
  have HX1 := Lib.hid (HX.out.2.next hb)
  have HS1 := Lib.hid (spots_more HS.out hb)
  clear hb
  clear h0
  have a0 := HX1.out.at_ 0 _ rfl
  have a1 := HX1.out.at_ 1 _ rfl
  have a2 := HX1.out.at_ 2 _ rfl
  have a3 := HX1.out.at_ 3 _ rfl
  go_wp2_with fail
  refine (toGauge_any _ _ _ _ _ _ l _ HS1.out hle).mono ?_
  rintro e w2 ⟨g2, rfl, hO, hb⟩
  have HO2 := Lib.hid hO
  have HB2 := Lib.hid (bthen HB1.out hb HB1.out.size)
  have HX2 := Lib.hid (HX1.out.next hb)
  have HS2 := Lib.hid (spots_more HS1.out hb)
  clear hO hb a0 a1 a2 a3
  go_wp2_with fail
  refine (isGauge_spec _ _ _ _ _ _ l _ (HO2.out.spots (Nat.le_refl _)) hm hn).mono ?_
  rintro e w3 ⟨rfl, hb⟩
  have HB3 := Lib.hid (bthen HB2.out hb HB2.out.size)
  have HX3 := Lib.hid (HX2.out.next hb)
  have HS3 := Lib.hid (spots_more HS2.out hb)
  clear hb
  have a0 := HX3.out.at_ 0 _ rfl
  have a1 := HX3.out.at_ 1 _ rfl
  have a2 := HX3.out.at_ 2 _ rfl
  have a3 := HX3.out.at_ 3 _ rfl
  go_wp2_with fail
  refine (toGauge_any _ _ _ _ _ _ l _ HS3.out hle).mono ?_
  rintro e w4 ⟨g4, rfl, hO, hb⟩
  have HO4 := Lib.hid hO
  have HB4 := Lib.hid (bthen HB3.out hb HB3.out.size)
  have HX4 := Lib.hid (HX3.out.next hb)
  have HS4 := Lib.hid (spots_more HS3.out hb)
  clear hO hb a0 a1 a2 a3
  obtain ⟨W5, hW5⟩ : ∃ W5, W5 = w4.alloc (.cells #[.int .i64 id, .string nm, .int .i64 ze, .slice (some ⟨g4, 0, none⟩) l.length l.length] 26) := ⟨_, rfl⟩
  have HN5 : Hid (Below w4.heap.size w4 W5 ∧ Has W5 w4.heap.size [.int .i64 id, .string nm, .int .i64 ze, .slice (some ⟨g4, 0, none⟩) l.length l.length]) := by rw [hW5]; exact box1 (Below.refl _ _)
  have HE := Lib.hid hW5
  clear hW5
  have HO5 := Lib.hid (HO4.out.on HN5.out.1 (Nat.le_refl _))
  have HB5 := Lib.hid (bthen HB4.out HN5.out.1 HB4.out.size)
  have HX5 := Lib.hid (HX4.out.next HN5.out.1)
  have HS5 := Lib.hid (spots_more HS4.out HN5.out.1)
  have HZ5 := Lib.hid HN5.out.1.size
  go_wp2_with fail
  rw [← HE.out]
  refine (isGauge_impl _ _ _ _ _ _ l _ (HO5.out.spots HZ5.out) hm hn).mono ?_
  rintro e w6 ⟨rfl, hb⟩
  have HO6 := Lib.hid (HO5.out.on hb HZ5.out)
  have HB6 := Lib.hid (bthen HB5.out hb HB5.out.size)
  have HX6 := Lib.hid (HX5.out.next hb)
  have HY6 := Lib.hid (HN5.out.2.next hb)
  have HS6 := Lib.hid (spots_more HS5.out hb)
  have HZ6 := Lib.hid (Nat.le_trans HZ5.out hb.size)
  clear hb
  have a0 := HX6.out.at_ 0 _ rfl
  have a1 := HX6.out.at_ 1 _ rfl
  have a2 := HX6.out.at_ 2 _ rfl
  have a3 := HX6.out.at_ 3 _ rfl
  have b0 := HY6.out.at_ 0 _ rfl
  have b1 := HY6.out.at_ 1 _ rfl
  have b2 := HY6.out.at_ 2 _ rfl
  have b3 := HY6.out.at_ 3 _ rfl
  go_wp2_with fail
  have HK : Hid ((∀ W : World, Below w6.heap.size w6 W → W.cell? ⟨w.heap.size, 0, none⟩ = some (.int .i64 id) ∧ W.cell? ⟨w.heap.size, 1, none⟩ = some (.string nm) ∧ W.cell? ⟨w.heap.size, 2, none⟩ = some (.int .i64 ze) ∧ W.cell? ⟨w.heap.size, 3, none⟩ = some (.slice A l.length c) ∧ W.cell? ⟨w4.heap.size, 0, none⟩ = some (.int .i64 id) ∧ W.cell? ⟨w4.heap.size, 1, none⟩ = some (.string nm) ∧ W.cell? ⟨w4.heap.size, 2, none⟩ = some (.int .i64 ze) ∧ W.cell? ⟨w4.heap.size, 3, none⟩ = some (.slice (some ⟨g4, 0, none⟩) l.length l.length) ∧ Hid (Below w6.heap.size w6 W)) ∧ (∀ W : World, (W.cell? ⟨w.heap.size, 0, none⟩ = some (.int .i64 id) ∧ W.cell? ⟨w.heap.size, 1, none⟩ = some (.string nm) ∧ W.cell? ⟨w.heap.size, 2, none⟩ = some (.int .i64 ze) ∧ W.cell? ⟨w.heap.size, 3, none⟩ = some (.slice A l.length c) ∧ W.cell? ⟨w4.heap.size, 0, none⟩ = some (.int .i64 id) ∧ W.cell? ⟨w4.heap.size, 1, none⟩ = some (.string nm) ∧ W.cell? ⟨w4.heap.size, 2, none⟩ = some (.int .i64 ze) ∧ W.cell? ⟨w4.heap.size, 3, none⟩ = some (.slice (some ⟨g4, 0, none⟩) l.length l.length) ∧ Hid (Below w6.heap.size w6 W)) → Below w6.heap.size w6 W)) := Lib.hid ⟨fun W h => ⟨cell_next h (by assumption), cell_next h (by assumption), cell_next h (by assumption), cell_next h (by assumption), cell_next h (by assumption), cell_next h (by assumption), cell_next h (by assumption), cell_next h (by assumption), Lib.hid h⟩, fun W h => h.2.2.2.2.2.2.2.2.out⟩
  go_region_held3 (fun W => W.cell? ⟨w.heap.size, 0, none⟩ = some (.int .i64 id) ∧ W.cell? ⟨w.heap.size, 1, none⟩ = some (.string nm) ∧ W.cell? ⟨w.heap.size, 2, none⟩ = some (.int .i64 ze) ∧ W.cell? ⟨w.heap.size, 3, none⟩ = some (.slice A l.length c) ∧ W.cell? ⟨w4.heap.size, 0, none⟩ = some (.int .i64 id) ∧ W.cell? ⟨w4.heap.size, 1, none⟩ = some (.string nm) ∧ W.cell? ⟨w4.heap.size, 2, none⟩ = some (.int .i64 ze) ∧ W.cell? ⟨w4.heap.size, 3, none⟩ = some (.slice (some ⟨g4, 0, none⟩) l.length l.length) ∧ Hid (Below w6.heap.size w6 W)) (first | with_reducible assumption | with_reducible exact HK.out.1 _ (Below.refl _ _).drew | with_reducible exact HK.out.1 _ (bthen (HK.out.2 _ (by assumption)) hb (HK.out.2 _ (by assumption)).size) | with_reducible exact HK.out.1 _ ((HK.out.2 _ (by assumption)).alloc (HK.out.2 _ (by assumption)).size _) | with_reducible exact HK.out.1 _ (HBw.out.alloc HBw.out.size _) | with_reducible exact HK.out.1 _ ((Below.refl _ _).alloc (Nat.le_refl _) _) | with_reducible exact HK.out.1 _ ((HK.out.2 _ (by assumption)).alloc (HK.out.2 _ (by assumption)).size _).drew | with_reducible exact HK.out.1 _ (HBw.out.alloc HBw.out.size _).drew | with_reducible exact HK.out.1 _ ((Below.refl _ _).alloc (Nat.le_refl _) _).drew) ((first | (go_at_call 48; refine (toGauge_any _ _ _ _ _ _ l _ (spots_more HS6.out (HK.out.2 _ (by assumption))) hle).mono ?_; rintro e w7 ⟨g7, rfl, hO, hb⟩; have HO7 := Lib.hid hO; have HO6' := Lib.hid (HO6.out.on (bthen (HK.out.2 _ (by assumption)) hb (HK.out.2 _ (by assumption)).size) HZ6.out); have HZ7 := Lib.hid (Nat.le_trans HZ6.out (bthen (HK.out.2 _ (by assumption)) hb (HK.out.2 _ (by assumption)).size).size); clear hO; dsimp only) | (go_at_call 49; refine (eqG_same _ _ _ _ _ _ _ _ l _ (HO6'.out.spots HZ7.out) (HO7.out.spots (Nat.le_refl _)) hm).mono ?_; rintro e w8 ⟨rfl, hb⟩; have HBw := Lib.hid (bthen (HK.out.2 _ (by assumption)) hb (HK.out.2 _ (by assumption)).size); dsimp only)))
  have HT := Lib.hid (bthen HB6.out (HK.out.2 _ (by assumption)) HB6.out.size)
  clear HK
  go_wp2_with fail
  go_ret
  exact ⟨rfl, HT.out⟩

/-! ### The row's step. -/
set_option maxRecDepth 100000 in
theorem lifted (os : Os) (started : os.Started) (H : Type) (enc : TypeId × Value → H) :
    ReturnsInHanded {} Try.checked os 5 .any (Rows.fnExactIsGaugeSpec.pre6 enc Try.prog Try.f5 Rows.fnExactIsGaugeRow.domain false) (Rows.fnExactIsGaugeSpec.post enc Try.prog Try.f5 false true false false) := by
  refine returnsInHanded_of_change (C := Try.checked) own started (by kernel_rfl) Try.func5
    (ChangeSpec.witness6 (enc := enc) (C := Try.checked) false ⟨#[], #[.agg #[.int .i64 0, .string ⟨#[]⟩, .int .i64 0, .slice none 0 0]], []⟩ 8 (by kernel_rfl) (by kernel_rfl) (by kernel_rfl) (by kernel_rfl)) ?_
  intro W base args ds gs before hval0 hW hcnd _
  have hval : ∀ (j : Nat) t v, Try.f5.params[j]? = some t → args[j]? = some v → Value.okWide Try.prog W .any base t v := hval0
  have hW' := hW
  obtain ⟨p, q, hA0, hV, rfl, hfz, hnd⟩ := hW
  have hA : DataW.TrodAll enc Try.prog W 0 (fun _ => true) true Try.f5.params.toList args.toList ds p := hA0
  rw [Try.params5] at hA hval
  obtain ⟨v0, vs0, d0, ds0, p0, q0, hargs, rfl, rfl, h0, r0⟩ := trodAll_cons hA
  obtain ⟨rfl, rfl, rfl⟩ := trodAll_nil r0
  obtain rfl : args = #[v0] := by cases args; simp_all
  obtain ⟨rfl, rfl⟩ := trodVars_none hV
  have k0 := h0
  have lt0 : ∀ x ∈ p0, x.block < W.heap.size := by obtain ⟨m, hm⟩ := k0; exact DataW.trod_lt m _ _ _ hm
  obtain ⟨id0, nm0, ze0, A0, n0, c0, rfl, z0, m0, l0, w0⟩ := open_gauge (hval 0 62 v0 rfl rfl) h0
  clear hA0 hval0
  refine (walk id0 ze0 nm0 A0 n0 c0 l0 W w0 m0 z0).mono fun e W1 ⟨he, bel⟩ => ?_
  subst he
  exact ⟨_, rfl, _, _, _, [], _, [], hW', trodAll_mk1 (shut_bool Try.underlying4 _), (trodAll_cons_mk (Below.trod laidOut (by kernel_rfl) (of_decide_eq_true (by kernel_rfl)) k0 bel lt0) trodAll_mk0), rfl, bel.frame _, fun h => by cases h⟩

/-- The statement. -/
theorem proved : Rows.FnExactIsGaugeSaid :=
  OpenClaim.holds_of_wide 5 Try.f5 rfl rfl rfl rfl rfl rfl rfl ⟨rfl, rfl, rfl, rfl, rfl⟩ rfl rfl rfl rfl rfl (by kernel_rfl) Try.func5 (by kernel_rfl)
    (of_decide_eq_true (by kernel_rfl)) (by unfold Func.isWrapper; first | (rw [if_pos (by decide +kernel)]; kernel_rfl) | (rw [if_neg (by decide +kernel)]; exact ⟨rfl, rfl⟩))
    (fun os started H enc _ => lifted os started H enc)
#print axioms proved
end Go.Proofs.Ytcimpnecjlpkoaa.fnExactIsGauge
