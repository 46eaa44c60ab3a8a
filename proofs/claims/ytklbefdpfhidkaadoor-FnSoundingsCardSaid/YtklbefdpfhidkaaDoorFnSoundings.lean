/-
  Proved here: for every code the law laws.FnSoundings returns true, and the code reads afterwards as before.
  Conditions: the row's own; the listed variables (math/bits.deBruijn32tab, math/bits.deBruijn64tab, internal/strconv.uint64pow10, strconv.ErrRange, strconv.ErrSyntax) start as the program's text lays them, which the card ties.
-/
import Derived.Test.YtklbefdpfhidkaaDoorRows
import Derived.Test.YtklbefdpfhidkaaDoorCards
import Derived.Test.YtklbefdpfhidkaaDoorTie
import Derived.Test.YtklbefdpfhidkaaDoorSo9
import Derived.Test.YtklbefdpfhidkaaDoorCs
import Derived.Stop.LaidErr
import Derived.WalkKit
import Derived.ProofKit
import Derived.OpenShut
import Derived.ShutString
import Derived.SizedLaws
import Derived.HandedShaped
import Derived.LaidLaws
import Derived.LaidMore
import Derived.SevenTiedAt
import Derived.Stop.Joined
namespace Go.Proofs.YtklbefdpfhidkaaDoor.fnSoundings
open Go.Joins Go.ChangeShapes Go.WideShapes Go.ChangeAt Go.RowKit Go.Deep
open Go.ChangeMaps (open_string)
set_option linter.unusedVariables false

theorem ownK : ownKnob Tryd.prog.godebug = none := by kernel_rfl
def laid : List (String × DataW Unit) := [("math/bits.deBruijn32tab", Rows.laid_math_bits_deBruijn32tab), ("math/bits.deBruijn64tab", Rows.laid_math_bits_deBruijn64tab), ("internal/strconv.uint64pow10", Rows.laid_internal_strconv_uint64pow10), ("strconv.ErrRange", Rows.laid_strconv_ErrRange), ("strconv.ErrSyntax", Rows.laid_strconv_ErrSyntax)]
theorem cellsPow : Tryd.prog.cellsOf 107 = 20 := by kernel_rfl
theorem cellsU : Tryd.prog.cellsOf 63 = 1 := by kernel_rfl
theorem gPow : Tryd.prog.globalNamed "internal/strconv.uint64pow10" = some 1 := by kernel_rfl
theorem tPow : (Tryd.prog.globals[1]?).map (·.type) = some 107 := by kernel_rfl
/-- The table of powers of ten, out of the row's condition. -/
theorem pow10_of_laid {w : World} (hL : laidMet Tryd.prog laid w) : Pow10 w := by
  have h2 : laidMet Tryd.prog (("internal/strconv.uint64pow10", Lib.tabData .u64 Lib.pow10Tab) :: laid.drop 3) w := laidMet.tail (laidMet.tail hL)
  exact Lib.tabIs_of_head gPow tPow Tryd.underlying107 Tryd.underlying63 cellsU cellsPow h2
theorem gES : Tryd.prog.globalNamed "strconv.ErrSyntax" = some 2 := by kernel_rfl
theorem gER : Tryd.prog.globalNamed "strconv.ErrRange" = some 3 := by kernel_rfl
theorem tES : (Tryd.prog.globals[2]?).map (·.type) = some 84 := by kernel_rfl
theorem tER : (Tryd.prog.globals[3]?).map (·.type) = some 84 := by kernel_rfl
theorem cellsErr : Tryd.prog.cellsOf 124 = 1 := by kernel_rfl
theorem cellsStr : Tryd.prog.cellsOf 9 = 1 := by kernel_rfl
theorem star : "*" ++ "errors.errorString" = "*errors.errorString" := by decide
theorem rowErr : ∀ u, Tryd.prog.typeName? 3 u = some "*errors.errorString" → u = 122 := fun u h =>
  typeName_ptr_named (nm := "errors.errorString") (by rw [star]; kernel_rfl) (by kernel_rfl) (by decide) u (by rw [star]; exact h)
/-- The two errors, out of the row's condition. -/
theorem errs_of_laid {w : World} (hL : laidMet Tryd.prog laid w) : Errs w := by
  have h3 := laidMet.tail (laidMet.tail (laidMet.tail hL))
  obtain ⟨a0, s0, h0, -, -, -⟩ := laid_sentinel h3 gER tER Tryd.underlying84 rowErr Tryd.underlying122 Tryd.underlying124 rfl rfl Tryd.underlying9 cellsErr cellsStr
  obtain ⟨a1, s1, h1, -, -, -⟩ := laid_sentinel (laidMet.tail h3) gES tES Tryd.underlying84 rowErr Tryd.underlying122 Tryd.underlying124 rfl rfl Tryd.underlying9 cellsErr cellsStr
  exact ⟨⟨_, _, h1⟩, _, _, h0⟩

/-! ### The walk: the Go text returns true, and nothing that was there has turned. -/
set_option maxRecDepth 20000 in
set_option maxHeartbeats 12800000 in
theorem walk (A : Option Addr) (n c : Nat) (w : World) (hm : n ≤ maxLen) (hr : CodeRow w.heap.size A n w) (hL : laidMet Tryd.prog laid w) (hM : ∃ m, w.cell? ⟨0, 0, none⟩ = some (.int .i64 m)) :
    Calls Tryd.prog 3 #[.slice A n c] w fun e w' => e = .returned (.bool true) ∧ Below w.heap.size w w' := by
  have HD := Lib.hid (show Doors w from ⟨pow10_of_laid hL, errs_of_laid hL, hM⟩)
  clear hL hM
  rcases hb0 : decide ((65536 : Int) < n) with _ | _
  rotate_left
  · have HV := Lib.hid hb0
    clear hb0
    go_enter Tryd.func3, Tryd.ntmps3
    go_wp2_with fail
    refine (vBig_any _ _ _ _ HV.out _).mono ?_
    rintro e w' ⟨rfl, rfl⟩
    go_wp2_with fail
    go_ret
    exact ⟨rfl, Below.refl _ _⟩
  have HV := Lib.hid hb0
  have HRW := Lib.hid hr
  clear hb0 hr
  have HB0 := Lib.hid (Below.refl w.heap.size w)
  go_enter Tryd.func3, Tryd.ntmps3
  go_wp2_with fail
  refine (vBig_any _ _ _ _ HV.out _).mono ?_
  rintro e w' ⟨rfl, rfl⟩
  go_wp2_with fail
  refine (draw_text A n c _ (HRW.out.below HB0.out HB0.out.size)).mono ?_
  rintro e w1 ⟨v, rfl, hb⟩
  have HB1 := Lib.hid (bthen HB0.out hb HB0.out.size)
  clear hb
  obtain ⟨tx, HTX⟩ : ∃ x, Hid (stT v = x) := ⟨_, Lib.hid rfl⟩
  obtain ⟨ok, HOK⟩ : ∃ x, Hid (sdB v = x) := ⟨_, Lib.hid rfl⟩
  have htx : tx.size ≤ 35 := by
    rw [← HTX.out]
    unfold stT
    split
    · exact txtS_size v (by assumption)
    · decide
  go_wp2_with fail
  refine (text_impl v _ (tabIs_below HD.out.1 ((HB1.out).alloc HB1.out.size _))).mono ?_
  unfold StPost
  rw [HTX.out, HOK.out]
  rintro e w2 ⟨rfl, hb⟩
  have HX2 := Lib.hid (box1 hb)
  have HB2 := Lib.hid (bthen HB1.out HX2.out.1 HB1.out.size)
  clear hb
  obtain ⟨v1, r1, hT⟩ := told_ex tx
  have HT := Lib.hid hT
  clear hT
  have hr : ok = true → v1 = v ∧ r1 = true := fun h => by
    subst h
    have h2 := HT.out
    have h3 : tx = txtS v := by rw [← HTX.out]; unfold stT; rw [HOK.out, if_pos rfl]
    rw [h3] at h2
    exact told_one HOK.out h2
  go_wp2_with fail
  refine (ps_impl tx v1 r1 HT.out _ (by omega) (HD.out.below HB2.out)).mono ?_
  rintro e w3 ⟨rfl, hb⟩
  have HB3 := Lib.hid (HB2.out |> fun h => (bthen h hb h.size).alloc (bthen h hb h.size).size (.cells #[.int .i64 v1.id, .int .i64 v1.x, .int .i64 v1.y, .int .i64 v1.dep, .int .i64 v1.dbt] 27))
  have HX3 : Hid (Has (w3.alloc (.cells #[.int .i64 v1.id, .int .i64 v1.x, .int .i64 v1.y, .int .i64 v1.dep, .int .i64 v1.dbt] 27)) w1.heap.size [.int .i64 v.id, .int .i64 v.x, .int .i64 v.y, .int .i64 v.dep, .int .i64 v.dbt]) := Lib.hid ((HX2.out.2.next hb).alloc _)
  have HY3 : Hid (Has (w3.alloc (.cells #[.int .i64 v1.id, .int .i64 v1.x, .int .i64 v1.y, .int .i64 v1.dep, .int .i64 v1.dbt] 27)) w3.heap.size [.int .i64 v1.id, .int .i64 v1.x, .int .i64 v1.y, .int .i64 v1.dep, .int .i64 v1.dbt]) := Lib.hid (by simpa using Has.new w3 #[.int .i64 v1.id, .int .i64 v1.x, .int .i64 v1.y, .int .i64 v1.dep, .int .i64 v1.dbt] 27)
  clear hb
  have a0 := HX3.out.at_ 0 _ rfl
  have a1 := HX3.out.at_ 1 _ rfl
  have a2 := HX3.out.at_ 2 _ rfl
  have a3 := HX3.out.at_ 3 _ rfl
  have a4 := HX3.out.at_ 4 _ rfl
  go_wp2_with fail
  refine (text_spec v _).mono ?_
  unfold StPost
  rw [HTX.out, HOK.out]
  rintro e w4 ⟨rfl, hb⟩
  have HB4 := Lib.hid (bthen HB3.out hb HB3.out.size)
  have HX4 := Lib.hid (HX3.out.next hb)
  have HY4 := Lib.hid (HY3.out.next hb)
  clear hb a0 a1 a2 a3 a4
  have a0 := HX4.out.at_ 0 _ rfl
  have a1 := HX4.out.at_ 1 _ rfl
  have a2 := HX4.out.at_ 2 _ rfl
  have a3 := HX4.out.at_ 3 _ rfl
  have a4 := HX4.out.at_ 4 _ rfl
  go_wp2_with fail
  refine (sound_impl v ok HOK.out _).mono ?_
  rintro e w5 ⟨rfl, hb⟩
  have HB5 := Lib.hid (bthen HB4.out hb HB4.out.size)
  have HX5 := Lib.hid (HX4.out.next hb)
  have HY5 := Lib.hid (HY4.out.next hb)
  clear hb a0 a1 a2 a3 a4
  have a0 := HX5.out.at_ 0 _ rfl
  have a1 := HX5.out.at_ 1 _ rfl
  have a2 := HX5.out.at_ 2 _ rfl
  have a3 := HX5.out.at_ 3 _ rfl
  have a4 := HX5.out.at_ 4 _ rfl
  have b0 := HY5.out.at_ 0 _ rfl
  have b1 := HY5.out.at_ 1 _ rfl
  have b2 := HY5.out.at_ 2 _ rfl
  have b3 := HY5.out.at_ 3 _ rfl
  have b4 := HY5.out.at_ 4 _ rfl
  rcases ok with _ | _
  · clear hr
    go_upto_if 80 with fail
    rename (Act → World → Prop) => KK
    rename (∀ (a : Act) (w : World), _ → KK a w) => aK
    have HKK := Lib.hid aK
    clear aK
    go_wp2_with fail
    exact HKK.out _ _ (tailG9 rfl A n c w _ HRW.out HB5.out HD.out _ _ _ _ _ _ _ _ _ _ _ _ _ _ _ _ _ _ _ _ _ _ _ _ _ _ _ _ _ _ _ _ _ _ _ _ _ _ _ _ _ _ _ _ _ _ _ _ _ _ _ _ _ _ _ _ _ _ _ _ _ _ _ _ _ _ _ _ _ _ _ _ _ _ _ _ _ _ _ _ _ _ _ _ _ _ _ _ _ _ _ _ _ _ _ _ _ _ _ _ _ _ _ _ _ _ _ _ _ _ _ _ _ _ _ _ _ _ _ _ _ _ _ _ _ _ _ _ _ _ _ _ _ _ _ _ _ _ _ _ _ _ _ _ _ _ _ _ _ _ _ _ _ _ _ _ _ _ _ _ _ _ _ _ _ _ _ _ _ _ _ _ _ _ _ _ _ _ _ _ _ _ _ _ _ _ _ _ _ _ _ _ _ _ _ _ _ _ _ _ _ _ _ _ _ _ _ _ _ _ _ _ _ _ _ _ _ _ _ _ _ _ _ _ _ _ _ _ _ _ _ _)
  obtain ⟨rfl, rfl⟩ := hr rfl
  go_upto_if 80 with fail
  rename (Act → World → Prop) => KK
  rename (∀ (a : Act) (w : World), _ → KK a w) => aK
  have HKK := Lib.hid aK
  clear aK
  go_wp2_with fail
  exact HKK.out _ _ (tailG9 rfl A n c w _ HRW.out HB5.out HD.out _ _ _ _ _ _ _ _ _ _ _ _ _ _ _ _ _ _ _ _ _ _ _ _ _ _ _ _ _ _ _ _ _ _ _ _ _ _ _ _ _ _ _ _ _ _ _ _ _ _ _ _ _ _ _ _ _ _ _ _ _ _ _ _ _ _ _ _ _ _ _ _ _ _ _ _ _ _ _ _ _ _ _ _ _ _ _ _ _ _ _ _ _ _ _ _ _ _ _ _ _ _ _ _ _ _ _ _ _ _ _ _ _ _ _ _ _ _ _ _ _ _ _ _ _ _ _ _ _ _ _ _ _ _ _ _ _ _ _ _ _ _ _ _ _ _ _ _ _ _ _ _ _ _ _ _ _ _ _ _ _ _ _ _ _ _ _ _ _ _ _ _ _ _ _ _ _ _ _ _ _ _ _ _ _ _ _ _ _ _ _ _ _ _ _ _ _ _ _ _ _ _ _ _ _ _ _ _ _ _ _ _ _ _ _ _ _ _ _ _ _ _ _ _ _ _ _ _ _ _ _ _)

/-! ### The row's step. -/
/-- The heap that the initialisers leave meets the condition. -/
theorem door_met (os : Os) (args : Array Value) : laidMetH Tryd.prog laid ((World.doorLaid Tryd.prog 62 os).forCall (fun _ _ => 0) ⟨#[], args, []⟩).memory :=
  laidMetH_of_parts3 (fuel := 8) (laidMet_of_run' 8 (by kernel_rfl) (by kernel_rfl)) (by kernel_rfl) (by kernel_rfl)

set_option maxRecDepth 100000 in
theorem lifted (os : Os) (started : os.Started) (H : Type) (enc : TypeId × Value → H) :
    ReturnsInHanded {} Tryd.checked os 3 .any (fun w args => (Rows.fnSoundingsSpec.pre enc Tryd.prog Tryd.f3 [] false w args ∧ laidMetH Tryd.prog laid w) ∧ sizedMet enc Tryd.prog Tryd.f3 (OpenSpec.ofChange Rows.fnSoundingsSpec) false w args)
      (Rows.fnSoundingsSpec.post enc Tryd.prog Tryd.f3 false true false false) := by
  refine change_and_shaped (C := Tryd.checked) (X := fun w _ => laidMetH Tryd.prog laid w) (fun _ _ _ hh h => h.of_heap hh) ownK started (by kernel_rfl) Tryd.func3
    (ChangeSpec.witness_shaped (enc := enc) (C := Tryd.checked) (os := os) (X := fun w _ => laidMetH Tryd.prog laid w) false (World.doorLaid Tryd.prog 62 os) #[.slice none 0 0] 8 rfl (World.shaped_of_RefB (by kernel_rfl) (by kernel_rfl)) (by kernel_rfl) (by kernel_rfl) (by kernel_rfl) (door_met os _)) ?_
  intro W base args ds gs before hval0 hW _ _ hsh hLH _
  have hval : ∀ (j : Nat) t v, Tryd.f3.params[j]? = some t → args[j]? = some v → Value.okWide Tryd.prog W .any base t v := hval0
  have hW' := hW
  obtain ⟨p, q, hA0, hV, rfl, hfz, hnd⟩ := hW
  have hA : DataW.TrodAll enc Tryd.prog W 0 (fun _ => true) true Tryd.f3.params.toList args.toList ds p := hA0
  rw [Tryd.params3] at hA hval
  obtain ⟨v0, vs0, d0, ds0, p0, q0, hargs, rfl, rfl, h0, r0⟩ := trodAll_cons hA
  obtain ⟨rfl, rfl, rfl⟩ := trodAll_nil r0
  obtain rfl : args = #[v0] := by cases args; simp_all
  obtain ⟨rfl, rfl⟩ := trodVars_none hV
  have k0 := h0
  have lt0 : ∀ x ∈ p0, x.block < W.heap.size := by obtain ⟨m, hm⟩ := k0; exact DataW.trod_lt m _ _ _ hm
  obtain ⟨A0, n0, c0, rfl⟩ := okWide_slice Tryd.underlying22 (hval 0 22 v0 rfl rfl)
  obtain ⟨m0, w0⟩ := open_code h0
  clear hA0 hval0
  have hL : laidMet Tryd.prog laid W := by
    rw [MakeChecks.laidMetH_plain _ _ _ (by kernel_rfl)] at hLH
    exact hLH
  have hM := Go.Proofs.cell_of_shapedOpen_int (g := 0) (zero := #[.int .i64 0]) (t := 3) (k := .i64) hsh (of_decide_eq_true (by kernel_rfl)) (by kernel_rfl) rfl (by kernel_rfl) (by kernel_rfl) Tryd.underlying3
  refine (walk A0 n0 c0 W m0 w0 hL hM).mono fun e W1 ⟨he, bel⟩ => ?_
  subst he
  exact ⟨_, rfl, _, _, _, [], _, [], hW', trodAll_mk1 (shut_bool Tryd.underlying4 _), (trodAll_cons_mk (Below.trod laidOut (by kernel_rfl) (of_decide_eq_true (by kernel_rfl)) k0 bel lt0) trodAll_mk0), rfl, bel.frame _, fun h => by cases h⟩

theorem over : Rows.FnSoundingsSaid :=
  OpenClaim.holds_of_wide 3 Tryd.f3 rfl rfl rfl rfl rfl rfl rfl ⟨rfl, rfl, rfl, rfl, rfl⟩ rfl rfl rfl rfl rfl (by kernel_rfl) Tryd.func3 (by kernel_rfl)
    (of_decide_eq_true (by kernel_rfl)) (by unfold Func.isWrapper; first | (rw [if_pos (by decide +kernel)]; kernel_rfl) | (rw [if_neg (by decide +kernel)]; exact ⟨rfl, rfl⟩))
    (fun os started H enc _ => lifted os started H enc)

/-- The statement: the tied card. -/
theorem proved : Rows.FnSoundingsCardSaid :=
  Claim7.holds_tied_plain_at .later [] [.data, .data, .data, .sentinel, .sentinel] true (true, "50536e274b02f50c6d4536958421fc2ee32c8b309ce479259673abf80bb89a9b") true
    over (fun _ h => by cases h) (by kernel_rfl) (fun _ h => by cases h) fnSoundings_row_tie rfl ⟨rfl, rfl⟩ (by kernel_rfl) rfl
    (fun f fn hf hfn => by
      obtain rfl : f = 3 := Option.some.inj ((show Tryd.prog.funcNamed "loop.example/g01031/laws.FnSoundings" = some 3 by kernel_rfl).symm.trans hf) |>.symm
      obtain rfl : fn = Tryd.f3 := (Option.some.inj (Tryd.func3.symm.trans hfn)).symm
      exact ⟨by kernel_rfl, fun j t ht => by
        rw [Tryd.params3] at ht
        have hm : t ∈ [22] := by simpa using Array.mem_of_getElem? ht
        have hall : ([22].all fun u => !Tryd.prog.wantsStandIn u) = true := by kernel_rfl
        exact (show Tryd.prog.wantsStandIn t = false by simpa using List.all_eq_true.1 hall t hm)⟩)
    (by kernel_rfl)
#print axioms proved
end Go.Proofs.YtklbefdpfhidkaaDoor.fnSoundings
