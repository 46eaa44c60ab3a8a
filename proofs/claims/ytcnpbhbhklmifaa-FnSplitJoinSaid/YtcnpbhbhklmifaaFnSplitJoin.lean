/-
  Proved here: for every slice of bytes the law laws.FnSplitJoin returns true (on the texts drawn from it: JoinStrings and LessString answer as their models, LessString is not true both ways, SplitString and JoinStrings are inverse), and the argument reads afterwards as before.
  Conditions: none beyond the row's own.
-/
import Derived.Test.YtcnpbhbhklmifaaRows
import Derived.Test.YtcnpbhbhklmifaaRound
import Derived.WalkKit
import Derived.ProofKit
import Derived.OpenShut
import Derived.ShutString
import Derived.ChangeOld
import Derived.Below
namespace Go.Proofs.Ytcnpbhbhklmifaa.fnSplitJoin
open Go.ChangeShapes Go.WideShapes Go.ChangeAt Go.RowKit
open Go.ChangeMaps (open_string shut_string)
set_option linter.unusedVariables false

theorem own : ownKnob Try.prog.godebug = none := by kernel_rfl
theorem laidOut : laidOutB Try.prog = true := by kernel_rfl

/-- A slice of integers that came in. -/
def IsRow (k : IntKind) (w : World) (a : Option Addr) (len cap : Nat) (zs : List Int) : Prop :=
  (a = none ∧ len = 0 ∧ cap = 0 ∧ zs = []) ∨
  ∃ x, a = some x ∧ len ≤ cap ∧ cap ≤ maxLen ∧ zs.length = cap ∧ (∀ i, i < zs.length → w.cell? (x.add i) = some (.int k (zs.getD i 0))) ∧ ∀ n ∈ zs, (Lit.int k n).wf = true

theorem code_row {w : World} {a : Option Addr} {len cap : Nat} {zs : List Int} (h : IsRow .u8 w a len cap zs) : CodeRow w.heap.size a len w := by
  intro j hj
  rcases h with ⟨_, h0, _⟩ | ⟨x, rfl, hl, _, hz, hc, hw⟩
  · omega
  · have h1 := hc j (by omega)
    have hlt := World.block_lt_of_cell? w _ h1
    have hblk : (x.add j).block = x.block := by unfold Addr.add; split <;> rfl
    have hm : zs.getD j 0 ∈ zs := by
      rw [List.getD_eq_getElem?_getD, List.getElem?_eq_getElem (by omega)]
      exact List.getElem_mem _
    have h2 := hw _ hm
    have h3 : (0 : Int) ≤ zs.getD j 0 ∧ zs.getD j 0 ≤ 255 := by
      have h4 : IntKind.u8.min = 0 := by decide
      have h5 : IntKind.u8.max = 255 := by decide
      simpa only [Lit.wf, h4, h5, Bool.and_eq_true, decide_eq_true_eq] using h2
    refine ⟨x, (zs.getD j 0).toNat, rfl, by rw [← hblk]; exact hlt, by omega, ?_⟩
    rw [h1]
    have e : (((zs.getD j 0).toNat : Nat) : Int) = zs.getD j 0 := by omega
    rw [e]

theorem big_yes (A : Option Addr) (n c : Nat) (w : World) (h : (65536 : Int) < n) : Calls Try.prog 8 #[.slice A n c] w fun e w' => e = .returned (.bool true) ∧ w = w' := by
  go_enter Try.func8, Try.ntmps8
  go_wp2
  go_ret
  exact ⟨by simp, rfl⟩
theorem big_no (A : Option Addr) (n c : Nat) (w : World) (h : ¬ (65536 : Int) < n) : Calls Try.prog 8 #[.slice A n c] w fun e w' => e = .returned (.bool false) ∧ w = w' := by
  go_enter Try.func8, Try.ntmps8
  go_wp2
  go_ret
  exact ⟨by simp, rfl⟩
theorem back_res (s : ByteArray) (b : UInt8) (hs : Short s) (B : Nat) (v : Value) (w : World) (h : w.ownsRow B 9 1 v (partsB b s).length ((partsB b s).map Value.string)) :
    Calls Try.prog 12 #[v, .string ⟨#[b]⟩] w (JoinRes s true w) := by
  have h0 := partsB_ne b s
  unfold Short at hs
  have hj := joinable_parts b s (by omega)
  have hlen := partsB_len b s
  have htot : (partsB b s).length - 1 + tot (partsB b s) ≤ 4000 := hj.2
  have h' := h
  obtain ⟨k, hk⟩ : ∃ k, (partsB b s).length = k + 1 := ⟨(partsB b s).length - 1, by omega⟩
  rw [hk] at h'
  obtain ⟨g, cap, rfl⟩ := ownsRow_succ h'
  rw [← hk] at h ⊢
  refine (jimpl_any g 0 cap b _ w (own_cells h) (h.lt g rfl).2 (own_cap h) (by omega) h0).mono fun e w' ⟨hb, hr⟩ => ?_
  rcases hr with ⟨_, he⟩ | ⟨hno, _⟩
  · rw [join_parts] at he
    exact ⟨he, hb⟩
  · exact absurd hj hno

/-! ### The walk: the Go text returns true, and the world has at most new blocks. -/
set_option maxHeartbeats 2000000 in
theorem walk (a0 : Option Addr) (len0 cap0 : Nat) (z0 : List Int) (w : World) (w0 : IsRow .u8 w a0 len0 cap0 z0) :
    Calls Try.prog 3 #[.slice a0 len0 cap0] w fun e w' => e = .returned (.bool true) ∧ Below w.heap.size w w' := by
  by_cases hbig : (65536 : Int) < len0
  · go_enter Try.func3, Try.ntmps3
    go_wp2_with fail
    refine (big_yes a0 len0 cap0 w hbig).mono ?_
    rintro e w' ⟨rfl, rfl⟩
    go_wp2
    go_ret
    exact ⟨rfl, Below.refl _ _⟩
  have HR := Lib.hid (code_row w0)
  have HBig := Lib.hid (big_no a0 len0 cap0 w hbig)
  clear w0 hbig
  go_enter Try.func3, Try.ntmps3
  go_wp2_with fail
  refine HBig.out.mono ?_
  rintro e w' ⟨rfl, rfl⟩
  go_wp2_with fail
  refine (draw_split _ _ _ _ HR.out).mono ?_
  rintro e w1 ⟨s, sep, hs, hsep, rfl, hb1⟩
  have HB1 := Lib.hid hb1
  have HS := Lib.hid hs
  clear hb1 hs hsep
  obtain ⟨xs, R, hI, hcase⟩ := split_res s sep HS.out
  have HI := Lib.hid hI
  have HCase := Lib.hid hcase
  clear hI hcase
  go_wp2_with fail
  refine (HI.out _).mono ?_
  rintro e w2 ⟨g2, c2, rfl, hr2, hb2⟩
  have HR2 := Lib.hid hr2
  have HB2 := Lib.hid (HB1.out.trans (hb2.mono HB1.out.size))
  clear hr2 hb2
  go_wp2_with fail
  refine (draw_join _ _ _ _ (HR.out.below HB2.out HB2.out.size)).mono ?_
  rintro e w3 ⟨v, ys, mark, rfl, hr3, hy1, hy2, hm, hb3⟩
  have HR3 := Lib.hid hr3
  have HR2b := Lib.hid (own_below HR2.out hb3)
  have HB3 := Lib.hid (HB2.out.trans (hb3.mono HB2.out.size))
  clear hr3 hb3 hm
  obtain ⟨R1, R2, h12, h13⟩ := join_res ys mark (by omega)
  have H12 := Lib.hid h12
  have H13 := Lib.hid h13
  clear h12 h13
  go_wp2_with fail
  refine (H12.out _ _ _ HR3.out).mono ?_
  rintro e w4 ⟨rfl, hb4⟩
  have HR4 := Lib.hid (own_below HR3.out hb4)
  have HR2c := Lib.hid (own_below HR2b.out hb4)
  have HB4 := Lib.hid (HB3.out.trans (hb4.mono HB3.out.size))
  clear hb4
  go_wp2_with fail
  refine (H13.out _ _ _ HR4.out).mono ?_
  rintro e w5 ⟨rfl, hb5⟩
  have HR2d := Lib.hid (own_below HR2c.out hb5)
  have HB5 := Lib.hid (HB4.out.trans (hb5.mono HB4.out.size))
  clear hb5
  go_wp2_with fail
  refine (draw_less _ _ _ _ (HR.out.below HB5.out HB5.out.size)).mono ?_
  rintro e w6 ⟨a, b, ha, hb, rfl, hb6⟩
  have HR2e := Lib.hid (own_below HR2d.out hb6)
  have HB6 := Lib.hid (HB5.out.trans (hb6.mono HB5.out.size))
  clear hb6 ha hb
  rcases HCase.out with ⟨hne, rfl, rfl⟩ | ⟨bt, rfl, rfl, rfl⟩
  · by_cases hl : Op.bytesLess a.toList b.toList = true
    · have hl2 := less_one _ _ hl
      go_wp2_with (first | (go_at_call 15; refine (less_impl _ _ _).mono ?_; rintro e w' ⟨rfl, rfl⟩) | (go_at_call 16; refine (less_spec _ _ _).mono ?_; rintro e w' ⟨rfl, rfl⟩))
      go_ret
      exact ⟨rfl, HB6.out⟩
    · have hl2 : Op.bytesLess a.toList b.toList = false := by simpa using hl
      clear hl
      go_wp2_with (first | (go_at_call 15; refine (less_impl _ _ _).mono ?_; rintro e w' ⟨rfl, rfl⟩) | (go_at_call 16; refine (less_spec _ _ _).mono ?_; rintro e w' ⟨rfl, rfl⟩))
      go_ret
      exact ⟨rfl, HB6.out⟩
  · have HK := Lib.hid (back_res s bt HS.out)
    by_cases hl : Op.bytesLess a.toList b.toList = true
    · have hl2 := less_one _ _ hl
      go_wp2_with (first | (go_at_call 15; refine (less_impl _ _ _).mono ?_; rintro e w' ⟨rfl, rfl⟩) | (go_at_call 16; refine (less_spec _ _ _).mono ?_; rintro e w' ⟨rfl, rfl⟩) | (go_at_call 12; refine (HK.out _ _ _ HR2e.out).mono ?_; rintro e w7 ⟨rfl, hb7⟩; have HB7 := Lib.hid (HB6.out.trans (hb7.mono HB6.out.size)); clear hb7))
      go_ret
      exact ⟨rfl, HB7.out⟩
    · have hl2 : Op.bytesLess a.toList b.toList = false := by simpa using hl
      clear hl
      go_wp2_with (first | (go_at_call 15; refine (less_impl _ _ _).mono ?_; rintro e w' ⟨rfl, rfl⟩) | (go_at_call 16; refine (less_spec _ _ _).mono ?_; rintro e w' ⟨rfl, rfl⟩) | (go_at_call 12; refine (HK.out _ _ _ HR2e.out).mono ?_; rintro e w7 ⟨rfl, hb7⟩; have HB7 := Lib.hid (HB6.out.trans (hb7.mono HB6.out.size)); clear hb7))
      go_ret
      exact ⟨rfl, HB7.out⟩

/-! ### The row's step. -/
set_option maxRecDepth 100000 in
theorem lifted (os : Os) (started : os.Started) (H : Type) (enc : TypeId × Value → H) :
    ReturnsInHanded {} Try.checked os 3 .any (Rows.fnSplitJoinSpec.pre6 enc Try.prog Try.f3 Rows.fnSplitJoinRow.domain false) (Rows.fnSplitJoinSpec.post enc Try.prog Try.f3 false true false false) := by
  refine returnsInHanded_of_change (C := Try.checked) own started (by kernel_rfl) Try.func3
    (ChangeSpec.witness6 (enc := enc) (C := Try.checked) false ⟨#[], #[.slice none 0 0], []⟩ 8 (by kernel_rfl) (by kernel_rfl) (by kernel_rfl) (by kernel_rfl)) ?_
  intro W base args ds gs before hval0 hW hcnd _
  have hval : ∀ (j : Nat) t v, Try.f3.params[j]? = some t → args[j]? = some v → Value.okWide Try.prog W .any base t v := hval0
  have hW' := hW
  obtain ⟨p, q, hA0, hV, rfl, hfz, hnd⟩ := hW
  have hA : DataW.TrodAll enc Try.prog W 0 (fun _ => true) true Try.f3.params.toList args.toList ds p := hA0
  rw [Try.params3] at hA hval
  obtain ⟨v0, vs0, d0, ds0, p0, q0, hargs, rfl, rfl, h0, r0⟩ := trodAll_cons hA
  obtain ⟨rfl, rfl, rfl⟩ := trodAll_nil r0
  obtain rfl : args = #[v0] := by cases args; simp_all
  obtain ⟨rfl, rfl⟩ := trodVars_none hV
  obtain ⟨a0, len0, cap0, rfl⟩ := okWide_slice Try.underlying22 (hval 0 22 v0 rfl rfl)
  have k0 := h0
  have lt0 : ∀ x ∈ p0, x.block < W.heap.size := by obtain ⟨m, hm⟩ := k0; exact DataW.trod_lt m _ _ _ hm
  obtain ⟨z0, w0⟩ : ∃ zs, IsRow .u8 W a0 len0 cap0 zs := by
    obtain ⟨fuel, hf⟩ := h0
    rcases open_ints Try.underlying22 Try.underlying5 (by kernel_rfl) hf with ⟨hcs, _⟩ | ⟨x, l, c, zs, hcs, _, hl, hm, hz, _, hcell, hwz⟩
    · simp [Value.cells] at hcs
      obtain ⟨rfl, rfl, rfl⟩ := hcs
      exact ⟨[], .inl ⟨rfl, rfl, rfl, rfl⟩⟩
    · simp [Value.cells] at hcs
      obtain ⟨rfl, rfl, rfl⟩ := hcs
      exact ⟨zs, .inr ⟨_, rfl, hl, hm, by simpa using hz, hcell, hwz⟩⟩
  clear hA0 hval0
  refine (walk a0 len0 cap0 z0 W w0).mono fun e W' ⟨he, bel⟩ => ?_
  subst he
  exact ⟨_, rfl, _, _, _, [], _, [], hW', trodAll_mk1 (shut_bool Try.underlying4 _), (trodAll_cons_mk (Below.trod laidOut (by kernel_rfl) (of_decide_eq_true (by kernel_rfl)) k0 bel lt0) trodAll_mk0), rfl, bel.frame _, fun h => by cases h⟩

theorem over : Rows.fnSplitJoinRow.holds Try.pinned (OpenSpec.ofChange Rows.fnSplitJoinSpec) :=
  OpenClaim.holds_of_wide 3 Try.f3 rfl rfl rfl rfl rfl rfl rfl ⟨rfl, rfl, rfl, rfl, rfl⟩ rfl rfl rfl rfl rfl (by kernel_rfl) Try.func3 (by kernel_rfl)
    (of_decide_eq_true (by kernel_rfl)) (by unfold Func.isWrapper; first | (rw [if_pos (by decide +kernel)]; kernel_rfl) | (rw [if_neg (by decide +kernel)]; exact ⟨rfl, rfl⟩))
    (fun os started H enc _ => lifted os started H enc)

/-- The statement. -/
theorem proved : Rows.FnSplitJoinSaid := over
#print axioms proved
end Go.Proofs.Ytcnpbhbhklmifaa.fnSplitJoin
