/-
  Proved here: for every slice of strings and every string the law laws.FnExactJoinStrings returns true (impl.JoinStrings answers as spec.JoinStrings and writes into no argument), and both arguments read afterwards as before.
  Conditions: none beyond the row's own.
-/
import Derived.Test.YtcnpbhbhklmifaaJoin
import Derived.ProofKit
import Derived.OpenShut
import Derived.ShutString
import Derived.SizedLaws
namespace Go.Proofs.Ytcnpbhbhklmifaa.fnExactJoinStrings
open Go.ChangeShapes Go.WideShapes Go.ChangeAt Go.RowKit
open Go.ChangeMaps (open_string shut_string)
set_option linter.unusedVariables false

theorem own : ownKnob Try.prog.godebug = none := by kernel_rfl
theorem laidOut : laidOutB Try.prog = true := by kernel_rfl
theorem cells9 : Try.prog.cellsOf 9 = 1 := by kernel_rfl

/-! ### The contracts at no text -/
theorem sz_zero (A : Option Addr) (c : Nat) (w : World) :
    Calls Try.prog 21 #[.slice A 0 c, .int .i64 1048576] w fun e w' => e = .returned (.int .i64 1048576) ∧ w = w' := by
  go_enter Try.func21, Try.ntmps21
  go_wp2
  refine wp_loop_rounds 1 ?_
  rw [rounds_succ]
  go_wp2
  go_ret
  exact ⟨rfl, rfl⟩
def NonePost (w : World) (e : Ending) (w' : World) : Prop := ∃ g, e = .returned (.slice (some ⟨g, 0, none⟩) 0 0) ∧ Below w.heap.size w w'
theorem copy_zero (A : Option Addr) (c : Nat) (w : World) : Calls Try.prog 22 #[.slice A 0 c] w (NonePost w) := by
  obtain ⟨i0, hi, hz0, hz1, hz2⟩ := info_parts info9
  go_enter Try.func22, Try.ntmps22
  go_wp2_with (at_make; refine wpList_make_full _ rfl _ _ 26 rfl w.heap.size 9 i0 (.string ⟨#[]⟩) 1 Try.underlying26 hi hz0 hz1 .i64 .i64 _ _ 0 rfl rfl rfl rfl (by omega) (by unfold maxLen; omega) (Nat.le_refl _) ?_; intro w1 hown hgrow)
  have hB0 := Lib.hid ((Below.refl w.heap.size w).grown hgrow (Nat.le_refl _) (fun k e => by cases e))
  clear hown hgrow
  refine wp_loop_rounds 1 ?_
  rw [rounds_succ]
  go_wp2
  go_ret
  exact ⟨_, rfl, hB0.out⟩
theorem jspec_none (A : Option Addr) (c : Nat) (sep : ByteArray) (w : World) :
    Calls Try.prog 13 #[.slice A 0 c, .string sep] w fun e w' => e = .returned (.tuple #[.string ⟨#[]⟩, .bool false]) ∧ w = w' := by
  by_cases h : sep.size = 1
  · have h1 : (1 : Int) ≤ sep.size := by omega
    have h2 : (sep.size : Int) ≤ 1 := by omega
    clear h
    go_enter Try.func13, Try.ntmps13
    go_wp2
    go_ret2
    exact ⟨rfl, rfl⟩
  · exact jspec_sep A 0 c sep w (beq_eq_false_iff_ne.2 (by omega))
theorem eq_zero (A A' : Option Addr) (c c' : Nat) (w : World) :
    Calls Try.prog 18 #[.slice A 0 c, .slice A' 0 c'] w fun e w' => e = .returned (.bool true) ∧ w = w' := by
  go_enter Try.func18, Try.ntmps18
  go_wp2
  refine wp_loop_rounds 1 ?_
  rw [rounds_succ]
  go_wp2
  go_ret
  exact ⟨rfl, rfl⟩

/-! ### The law at no text -/
set_option maxHeartbeats 800000 in
theorem law_zero (A : Option Addr) (c : Nat) (sep : ByteArray) (w : World) :
    Calls Try.prog 5 #[.slice A 0 c, .string sep] w fun e w' => e = .returned (.bool true) ∧ Below w.heap.size w w' := by
  by_cases h0 : (1048576 : Int) < sep.size
  · go_enter Try.func5, Try.ntmps5
    go_wp2
    go_ret
    exact ⟨rfl, Below.refl _ _⟩
  go_enter Try.func5, Try.ntmps5
  go_wp2_with fail
  refine (sz_zero A c _).mono ?_
  rintro e w' ⟨rfl, rfl⟩
  go_wp2_with fail
  refine (copy_zero A c _).mono ?_
  rintro e w1 ⟨g1, rfl, hb1⟩
  have HB1 := Lib.hid hb1
  clear hb1
  go_wp2_with fail
  refine (jspec_none _ _ _ _).mono ?_
  rintro e w' ⟨rfl, rfl⟩
  go_wp2_with fail
  refine (copy_zero A c _).mono ?_
  rintro e w2 ⟨g2, rfl, hb2⟩
  have HB2 := Lib.hid (HB1.out.trans (hb2.mono HB1.out.size))
  clear hb2
  go_wp2_with fail
  refine (jimpl_zero _ _ _ _).mono ?_
  rintro e w' ⟨rfl, rfl⟩
  go_wp2_with fail
  refine (copy_zero A c _).mono ?_
  rintro e w3 ⟨g3, rfl, hb3⟩
  have HB3 := Lib.hid (HB2.out.trans (hb3.mono HB2.out.size))
  clear hb3
  go_wp2_with fail
  refine (eq_zero _ _ _ _ _).mono ?_
  rintro e w' ⟨rfl, rfl⟩
  go_wp2
  go_ret
  exact ⟨rfl, HB3.out⟩
/-! ### The law at some text -/
theorem both (xs : List ByteArray) (sep : ByteArray) (hn : xs.length + tot xs ≤ 1048576) (h0 : 0 < xs.length) : ∃ (R1 : ByteArray) (R2 : Bool),
    (∀ (g o c : Nat) (w : World), Cells w g o xs → Calls Try.prog 13 #[.slice (some ⟨g, o, none⟩) xs.length c, .string sep] w fun e w' => e = .returned (.tuple #[.string R1, .bool R2]) ∧ ∃ k, w' = w.drewN k) ∧
    (∀ (g o c : Nat) (w : World), Cells w g o xs → g < w.heap.size → xs.length ≤ c → Calls Try.prog 12 #[.slice (some ⟨g, o, none⟩) xs.length c, .string sep] w fun e w' => e = .returned (.tuple #[.string R1, .bool R2]) ∧ Below w.heap.size w w') := by
  by_cases h : sep.size = 1
  · obtain ⟨b, rfl⟩ : ∃ b, sep = ⟨#[b]⟩ := by
      obtain ⟨⟨l⟩⟩ := sep
      match l, h with
      | [b], _ => exact ⟨b, rfl⟩
    by_cases hj : Joinable b xs
    · refine ⟨joinAll b xs, true, fun g o c w hc => ?_, fun g o c w hc hg hcap => ?_⟩
      · refine (jspec_any g o c b xs w hc hn h0).mono fun e w' ⟨hk, hr⟩ => ⟨?_, hk⟩
        rcases hr with ⟨_, he⟩ | ⟨hno, _⟩
        · exact he
        · exact absurd hj hno
      · refine (jimpl_any g o c b xs w hc hg hcap hn h0).mono fun e w' ⟨hk, hr⟩ => ⟨?_, hk⟩
        rcases hr with ⟨_, he⟩ | ⟨hno, _⟩
        · exact he
        · exact absurd hj hno
    · refine ⟨⟨#[]⟩, false, fun g o c w hc => ?_, fun g o c w hc hg hcap => ?_⟩
      · refine (jspec_any g o c b xs w hc hn h0).mono fun e w' ⟨hk, hr⟩ => ⟨?_, hk⟩
        rcases hr with ⟨hyes, _⟩ | ⟨_, he⟩
        · exact absurd hyes hj
        · exact he
      · refine (jimpl_any g o c b xs w hc hg hcap hn h0).mono fun e w' ⟨hk, hr⟩ => ⟨?_, hk⟩
        rcases hr with ⟨hyes, _⟩ | ⟨_, he⟩
        · exact absurd hyes hj
        · exact he
  · have hne : ((sep.size : Int) == 1) = false := beq_eq_false_iff_ne.2 (by omega)
    refine ⟨⟨#[]⟩, false, fun g o c w _ => ?_, fun g o c w _ _ _ => ?_⟩
    · exact (jspec_sep _ _ _ sep w hne).mono fun e w' ⟨he, hw⟩ => ⟨he, 0, by rw [World.drewN_zero, hw]⟩
    · exact (jimpl_sep _ _ _ sep w h0 hne).mono fun e w' ⟨he, hw⟩ => ⟨he, by rw [← hw]; exact Below.refl _ _⟩
set_option maxHeartbeats 800000 in
theorem law_some (b o c : Nat) (xs : List ByteArray) (sep : ByteArray) (w : World) (hc : Cells w b o xs) (hb : b < w.heap.size) (hw : ∀ x ∈ xs, x.size ≤ maxLen) (hm : xs.length ≤ maxLen) (h0 : 0 < xs.length) :
    Calls Try.prog 5 #[.slice (some ⟨b, o, none⟩) xs.length c, .string sep] w fun e w' => e = .returned (.bool true) ∧ Below w.heap.size w w' := by
  by_cases hs : (1048576 : Int) < sep.size
  · unfold maxLen at hm
    go_enter Try.func5, Try.ntmps5
    go_wp2
    go_ret
    exact ⟨rfl, Below.refl _ _⟩
  by_cases hz : 1048576 < xs.length + tot xs
  · go_enter Try.func5, Try.ntmps5
    go_wp2_with (go_at_call 21; refine (sz_neg b o c xs _ hc hw hm hz).mono ?_; rintro e w' ⟨rfl, rfl⟩)
    go_ret
    exact ⟨rfl, Below.refl _ _⟩
  have hz' : xs.length + tot xs ≤ 1048576 := by omega
  obtain ⟨R1, R2, h13, h12⟩ := both xs sep hz' h0
  have H13 := Lib.hid h13
  have H12 := Lib.hid h12
  clear h13 h12 hz hw
  unfold maxLen at hm
  go_enter Try.func5, Try.ntmps5
  go_wp2_with fail
  refine (sz_pos b o c xs _ hc hz').mono ?_
  rintro e w' ⟨⟨r, rfl⟩, rfl⟩
  go_wp2_with fail
  refine (copy_any b o c xs _ hc hb (by omega)).mono ?_
  rintro e w1 ⟨g1, rfl, h1a, h1b, h1c, h1f, h1d⟩
  have HC1 := Lib.hid h1c
  have HB1 := Lib.hid h1d
  clear h1a h1b h1c h1f h1d
  go_wp2_with fail
  refine (H13.out g1 0 xs.length _ HC1.out).mono ?_
  rintro e w' ⟨rfl, k, rfl⟩
  have HB1k := Lib.hid (HB1.out.trans ((below_drewN w1 k).mono HB1.out.size))
  go_wp2_with fail
  refine (copy_any b o c xs _ (hc.below HB1k.out hb) (by have := HB1k.out.size; omega) (by omega)).mono ?_
  rintro e w2 ⟨g2, rfl, h2a, h2b, h2c, h2f, h2d⟩
  have HC2 := Lib.hid h2c
  have HG2 := Lib.hid h2b
  have HB2 := Lib.hid (HB1k.out.trans (h2d.mono HB1k.out.size))
  clear h2a h2b h2c h2f h2d
  go_wp2_with fail
  refine (H12.out g2 0 xs.length _ HC2.out HG2.out (Nat.le_refl _)).mono ?_
  rintro e w3 ⟨rfl, hb3⟩
  have HC3 := Lib.hid (HC2.out.below hb3 HG2.out)
  have HG3 := Lib.hid (show g2 < w3.heap.size from by have h1 := hb3.size; have h2 := HG2.out; omega)
  have HB3 := Lib.hid (HB2.out.trans (hb3.mono HB2.out.size))
  clear hb3
  go_wp2_with fail
  refine (copy_any b o c xs _ (hc.below HB3.out hb) (by have := HB3.out.size; omega) (by omega)).mono ?_
  rintro e w4 ⟨g4, rfl, h4a, h4b, h4c, h4f, h4d⟩
  have HC4 := Lib.hid h4c
  have HC5 := Lib.hid (HC3.out.below h4d HG3.out)
  have HB4 := Lib.hid (HB3.out.trans (h4d.mono HB3.out.size))
  clear h4a h4b h4c h4f h4d
  go_wp2_with fail
  refine (eq_true g2 0 xs.length g4 0 xs.length xs _ HC5.out HC4.out (by unfold maxLen; omega)).mono ?_
  rintro e w' ⟨rfl, k2, rfl⟩
  go_wp2
  go_ret
  exact ⟨rfl, HB4.out.trans ((below_drewN w4 k2).mono HB4.out.size)⟩

/-! ### The row's step. -/
set_option maxRecDepth 100000 in
theorem lifted (os : Os) (started : os.Started) (H : Type) (enc : TypeId × Value → H) :
    ReturnsInHanded {} Try.checked os 5 .any (Rows.fnExactJoinStringsSpec.pre6 enc Try.prog Try.f5 Rows.fnExactJoinStringsRow.domain false) (Rows.fnExactJoinStringsSpec.post enc Try.prog Try.f5 false true false false) := by
  refine returnsInHanded_of_change (C := Try.checked) own started (by kernel_rfl) Try.func5
    (ChangeSpec.witness6 (enc := enc) (C := Try.checked) false ⟨#[], #[.slice none 0 0, .string ByteArray.empty], []⟩ 8 (by kernel_rfl) (by kernel_rfl) (by kernel_rfl) (by kernel_rfl)) ?_
  intro W base args ds gs before hval0 hW hcnd _
  have hval : ∀ (j : Nat) t v, Try.f5.params[j]? = some t → args[j]? = some v → Value.okWide Try.prog W .any base t v := hval0
  have hW' := hW
  obtain ⟨p, q, hA0, hV, rfl, hfz, hnd⟩ := hW
  have hA : DataW.TrodAll enc Try.prog W 0 (fun _ => true) true Try.f5.params.toList args.toList ds p := hA0
  rw [Try.params5] at hA hval
  obtain ⟨v0, v1, d0, d1, p0, p1, rfl, rfl, rfl, h0, h1⟩ := trodAll_two hA
  obtain ⟨rfl, rfl⟩ := trodVars_none hV
  obtain ⟨a0, len, cap, rfl⟩ := okWide_slice Try.underlying26 (hval 0 26 v0 rfl rfl)
  obtain ⟨sep, rfl, rfl, rfl, w1⟩ := open_string Try.underlying9 (hval 1 9 v1 rfl rfl) h1
  have h0k := h0
  obtain ⟨fuel, hf⟩ := h0
  clear hA0 hval0
  simp only [List.append_nil] at hW'
  have hlt : ∀ x ∈ p0, x.block < W.heap.size := fun x hx => by simpa using hW'.lt x (by simpa using hx)
  have fin : ∀ W' : World, Below W.heap.size W W' → Rows.fnExactJoinStringsSpec.post enc Try.checked.prog Try.f5 false true false false W #[.slice a0 len cap, .string sep] (.bool true) W' := by
    intro W' hnx
    refine ⟨_, _, _, [], p0, [], hW', ?_, ?_, rfl, hnx.frame _, fun h => by cases h⟩
    · exact trodAll_mk1 (shut_bool Try.underlying4 _)
    · have e := trodAll_mk2 (Below.trod laidOut (by kernel_rfl) (of_decide_eq_true (by kernel_rfl)) h0k hnx hlt) (shut_string Try.underlying9 w1)
      simp only [List.append_nil] at e
      exact e
  have none_end : len = 0 → Calls Try.checked.prog 5 #[.slice a0 len cap, .string sep] W fun e W' => ∃ v, e = Ending.returned v ∧ Rows.fnExactJoinStringsSpec.post enc Try.checked.prog Try.f5 false true false false W #[.slice a0 len cap, .string sep] v W' := by
    intro hl0
    subst hl0
    refine (law_zero a0 cap sep W).mono fun e W' ⟨he, hw⟩ => ?_
    subst he
    exact ⟨_, rfl, fin _ hw⟩
  rcases open_strings Try.underlying26 Try.underlying9 cells9 hf with ⟨hcs, hx⟩ | ⟨a, len', cap', ss, hcs, _, hl, hm, hz, hx, hcell, hws⟩
  · simp [Value.cells] at hcs
    obtain ⟨rfl, rfl, rfl⟩ := hcs
    exact none_end rfl
  · simp [Value.cells] at hcs
    obtain ⟨rfl, rfl, rfl⟩ := hcs
    simp only [if_true] at hz
    by_cases hl0 : len = 0
    · exact none_end hl0
    · obtain ⟨b, off, spot⟩ := a
      have hspot : spot = none := by simpa [Addr.add] using World.cell?_spot (hcell 0 (by omega))
      subst hspot
      have hp : p0 = MemPlace.row ⟨b, off, none⟩ ss.length := (Prod.mk.inj hx).2
      have hbW : b < W.heap.size := hlt (.cell b off) (by rw [hp]; exact MemPlace.mem_row.2 ⟨0, by omega, by simp⟩)
      have hlen : (ss.take len).length = len := by rw [List.length_take]; omega
      have hC : Cells W b off (ss.take len) := fun j x hj => by
        have hj1 : j < (ss.take len).length := (List.getElem?_eq_some_iff.1 hj).1
        have := hcell j (by omega)
        rw [add_plain] at this
        rw [this]
        rw [List.getElem?_take, if_pos (by omega)] at hj
        simp [List.getD, hj]
      have hlaw := law_some b off cap (ss.take len) sep W hC hbW (fun x hx => hws x (List.mem_of_mem_take hx)) (by rw [hlen]; omega) (by omega)
      rw [hlen] at hlaw
      refine hlaw.mono fun e W' ⟨he, hnx⟩ => ?_
      subst he
      exact ⟨_, rfl, fin _ hnx⟩

/-- The statement. -/
theorem proved : Rows.FnExactJoinStringsSaid :=
  OpenClaim.holds_of_wide 5 Try.f5 rfl rfl rfl rfl rfl rfl rfl ⟨rfl, rfl, rfl, rfl, rfl⟩ rfl rfl rfl rfl rfl (by kernel_rfl) Try.func5 (by kernel_rfl)
    (of_decide_eq_true (by kernel_rfl)) (by unfold Func.isWrapper; first | (rw [if_pos (by decide +kernel)]; kernel_rfl) | (rw [if_neg (by decide +kernel)]; exact ⟨rfl, rfl⟩))
    (fun os started H enc _ => lifted os started H enc)
#print axioms proved
end Go.Proofs.Ytcnpbhbhklmifaa.fnExactJoinStrings
