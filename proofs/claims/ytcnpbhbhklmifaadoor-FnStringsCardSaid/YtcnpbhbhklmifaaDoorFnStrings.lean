/-
  Proved here: for every slice of bytes the law laws.FnStrings returns true (on the values drawn from it: FormatInt, ParseInt and AppendChecksum answer as their models, each undoes the other, and a checksummed text of which one byte is changed is not verified), and the argument reads afterwards as before.
  Conditions: the row's own; the listed variables (math/bits.deBruijn32tab, math/bits.deBruijn64tab, internal/strconv.uint64pow10, strconv.ErrRange, strconv.ErrSyntax) start as the program's text lays them, which the card ties.
-/
import Derived.Test.YtcnpbhbhklmifaaDoorRows
import Derived.Test.YtcnpbhbhklmifaaDoorCards
import Derived.Test.YtcnpbhbhklmifaaDoorTie
import Derived.Test.YtcnpbhbhklmifaaDoorStr
import Derived.StillTailTactics
import Derived.WalkKit
import Derived.ProofKit
import Derived.OpenShut
import Derived.ShutString
import Derived.ChangeOld
import Derived.Below
import Derived.SizedLaws
import Derived.LaidLaws
import Derived.LaidMore
import Derived.SevenTiedAt
import Derived.Stop.Joined
namespace Go.Proofs.YtcnpbhbhklmifaaDoor.fnStrings
open Go.ChangeShapes Go.WideShapes Go.ChangeAt Go.RowKit
open Go.ChangeMaps (open_string shut_string)
set_option linter.unusedVariables false

theorem laidOut : laidOutB Tryd.prog = true := by kernel_rfl
theorem own : ownKnob Tryd.prog.godebug = none := by kernel_rfl
def laid : List (String × DataW Unit) := [("math/bits.deBruijn32tab", Rows.laid_math_bits_deBruijn32tab), ("math/bits.deBruijn64tab", Rows.laid_math_bits_deBruijn64tab), ("internal/strconv.uint64pow10", Rows.laid_internal_strconv_uint64pow10), ("strconv.ErrRange", Rows.laid_strconv_ErrRange), ("strconv.ErrSyntax", Rows.laid_strconv_ErrSyntax)]

theorem cells80 : Tryd.prog.cellsOf 80 = 20 := by kernel_rfl
theorem cellsU : Tryd.prog.cellsOf 35 = 1 := by kernel_rfl
theorem gPow : Tryd.prog.globalNamed "internal/strconv.uint64pow10" = some 3 := by kernel_rfl
theorem tPow : (Tryd.prog.globals[3]?).map (·.type) = some 80 := by kernel_rfl
/-- The table of powers of ten, out of the row's condition. -/
theorem pow10_of_laid {w : World} (hL : laidMet Tryd.prog laid w) : Pow10 w := by
  have h2 : laidMet Tryd.prog (("internal/strconv.uint64pow10", Lib.tabData .u64 Lib.pow10Tab) :: laid.drop 3) w := laidMet.tail (laidMet.tail hL)
  exact Lib.tabIs_of_head gPow tPow Tryd.underlying80 Tryd.underlying35 cellsU cells80 h2
theorem gES : Tryd.prog.globalNamed "strconv.ErrSyntax" = some 0 := by kernel_rfl
theorem gER : Tryd.prog.globalNamed "strconv.ErrRange" = some 1 := by kernel_rfl
theorem tES : (Tryd.prog.globals[0]?).map (·.type) = some 46 := by kernel_rfl
theorem tER : (Tryd.prog.globals[1]?).map (·.type) = some 46 := by kernel_rfl
theorem cells88 : Tryd.prog.cellsOf 88 = 1 := by kernel_rfl
theorem cells9 : Tryd.prog.cellsOf 9 = 1 := by kernel_rfl
theorem star : "*" ++ "errors.errorString" = "*errors.errorString" := by decide
theorem row86 : ∀ u, Tryd.prog.typeName? 3 u = some "*errors.errorString" → u = 86 := fun u h =>
  typeName_ptr_named (nm := "errors.errorString") (by rw [star]; kernel_rfl) (by kernel_rfl) (by decide) u (by rw [star]; exact h)
/-- The two errors, out of the row's condition. -/
theorem errs_of_laid {w : World} (hL : laidMet Tryd.prog laid w) : Errs w := by
  have h3 := laidMet.tail (laidMet.tail (laidMet.tail hL))
  obtain ⟨a0, s0, h0, -, -, -⟩ := laid_sentinel h3 gER tER Tryd.underlying46 row86 Tryd.underlying86 Tryd.underlying88 rfl rfl Tryd.underlying9 cells88 cells9
  obtain ⟨a1, s1, h1, -, -, -⟩ := laid_sentinel (laidMet.tail h3) gES tES Tryd.underlying46 row86 Tryd.underlying86 Tryd.underlying88 rfl rfl Tryd.underlying9 cells88 cells9
  exact ⟨⟨_, _, h1⟩, _, _, h0⟩
/-- A slice of integers that came in. -/
def IsRow (k : IntKind) (w : World) (a : Option Addr) (len cap : Nat) (zs : List Int) : Prop :=
  (a = none ∧ len = 0 ∧ cap = 0 ∧ zs = []) ∨
  ∃ x, a = some x ∧ len ≤ cap ∧ cap ≤ maxLen ∧ zs.length = cap ∧ (∀ i, i < zs.length → w.cell? (x.add i) = some (.int k (zs.getD i 0))) ∧ ∀ n ∈ zs, (Lit.int k n).wf = true
theorem code_row {w : World} {a : Option Addr} {len cap : Nat} {zs : List Int} (h : IsRow .u8 w a len cap zs) : CodeRow w.heap.size a len w := by
  intro j hj
  rcases h with ⟨_, h0, _⟩ | ⟨x, rfl, hl, _, hz, hc, hw⟩
  · omega
  · have h1 := hc j (by omega)
    have hlt := World.block_lt_of_cell? w _ h1
    have hblk : (x.add j).block = x.block := by unfold Addr.add; split <;> rfl
    have hm : zs.getD j 0 ∈ zs := by
      rw [List.getD_eq_getElem?_getD, List.getElem?_eq_getElem (by omega)]
      exact List.getElem_mem _
    have h2 := hw _ hm
    have h3 : (0 : Int) ≤ zs.getD j 0 ∧ zs.getD j 0 ≤ 255 := by
      have h4 : IntKind.u8.min = 0 := by decide
      have h5 : IntKind.u8.max = 255 := by decide
      simpa only [Lit.wf, h4, h5, Bool.and_eq_true, decide_eq_true_eq] using h2
    refine ⟨x, (zs.getD j 0).toNat, rfl, by rw [← hblk]; exact hlt, by omega, ?_⟩
    rw [h1]
    have e : (((zs.getD j 0).toNat : Nat) : Int) = zs.getD j 0 := by omega
    rw [e]

/-! ### The walk: the Go text returns true, and nothing that was there has turned. -/
set_option maxRecDepth 20000 in
set_option maxHeartbeats 4000000 in
theorem walk (a0 : Option Addr) (len0 cap0 : Nat) (z0 : List Int) (w : World) (w0 : IsRow .u8 w a0 len0 cap0 z0) (hL : laidMet Tryd.prog laid w) :
    Calls Tryd.prog 3 #[.slice a0 len0 cap0] w fun e w' => e = .returned (.bool true) ∧ Below w.heap.size w w' := by
  by_cases hbig : (65536 : Int) < len0
  · go_enter Tryd.func3, Tryd.ntmps3
    go_wp2_with fail
    refine (big_yes a0 len0 cap0 w hbig).mono ?_
    rintro e w' ⟨rfl, rfl⟩
    go_wp2
    go_ret
    exact ⟨rfl, Below.refl _ _⟩
  have HBig := Lib.hid (big_no a0 len0 cap0 w hbig)
  have hc0 := code_row w0
  obtain ⟨v1, hv1, hat1⟩ := at_fix a0 len0 cap0 9 w hc0 (by omega) (by omega)
  obtain ⟨v2, hv2, hat2⟩ := at_fix a0 len0 cap0 10 w hc0 (by omega) (by omega)
  have HAT1 := Lib.hid hat1
  have HAT2 := Lib.hid hat2
  have HR := Lib.hid hc0
  have hp := pow10_of_laid hL
  have he := errs_of_laid hL
  have HP := Lib.hid (fun (W : World) (hb : Below w.heap.size w W) => hp.below hb)
  have HE := Lib.hid (fun (W : World) (hb : Below w.heap.size w W) => he.below hb)
  clear w0 hbig hc0 hat1 hat2 hp he hL
  go_enter Tryd.func3, Tryd.ntmps3
  go_wp2_with fail
  refine HBig.out.mono ?_
  rintro e w' ⟨rfl, rfl⟩
  go_wp2_with fail
  refine (draw_fmt _ _ _ _ HR.out).mono ?_
  rintro e w1 ⟨n, hn, rfl, hb1⟩
  have HB1 := Lib.hid hb1
  obtain ⟨s, R, hs, hf1, hf2, hcase⟩ := fmt_res n hn
  obtain ⟨ms, Rs, hs1, _, hsn⟩ := parse_res s hs
  have HF1 := Lib.hid hf1
  have HF2 := Lib.hid hf2
  have HS1 := Lib.hid hs1
  have HCase := Lib.hid (show R = true → ms = n ∧ Rs = true from fun hR => by
    rcases hcase with ⟨_, hnum⟩ | h0
    · exact hsn n hnum
    · rw [h0] at hR; cases hR)
  clear hb1 hs hf1 hf2 hcase hs1 hsn hn
  go_wp2_with fail
  refine (HF1.out _ (HP.out _ HB1.out)).mono ?_
  rintro e w2 ⟨rfl, hb2⟩
  have HB2 := Lib.hid (HB1.out.trans (hb2.mono HB1.out.size))
  clear hb2
  go_wp2_with fail
  refine (HF2.out _).mono ?_
  rintro e w3 ⟨rfl, hb3⟩
  have HB3 := Lib.hid (HB2.out.trans (hb3.mono HB2.out.size))
  clear hb3
  go_wp2_with fail
  refine (draw_parse _ _ _ _ (HR.out.below HB3.out HB3.out.size)).mono ?_
  rintro e w4 ⟨t, ht, rfl, hb4⟩
  have HB4 := Lib.hid (HB3.out.trans (hb4.mono HB3.out.size))
  obtain ⟨m, Rt, ht1, ht2, _⟩ := parse_res t ht
  have HT1 := Lib.hid ht1
  have HT2 := Lib.hid ht2
  clear hb4 ht ht1 ht2
  go_wp2_with fail
  refine (HT1.out _ (HP.out _ HB4.out) (HE.out _ HB4.out)).mono ?_
  rintro e w5 ⟨rfl, hb5⟩
  have HB5 := Lib.hid (HB4.out.trans (hb5.mono HB4.out.size))
  clear hb5
  go_wp2_with fail
  refine (HT2.out _).mono ?_
  rintro e w6 ⟨rfl, hb6⟩
  have HB6 := Lib.hid (HB5.out.trans (hb6.mono HB5.out.size))
  clear hb6
  go_wp2_with fail
  refine (draw_app _ _ _ _ (HR.out.below HB6.out HB6.out.size)).mono ?_
  rintro e w7 ⟨x, hx, rfl, hb7⟩
  have HB7 := Lib.hid (HB6.out.trans (hb7.mono HB6.out.size))
  obtain ⟨y, Ry, hy1, hy2, hy⟩ := app_res x hx
  have HY1 := Lib.hid hy1
  have HY2 := Lib.hid hy2
  have HY := Lib.hid hy
  clear hb7 hx hy1 hy2 hy
  go_wp2_with fail
  refine (HY1.out _ (HP.out _ HB7.out)).mono ?_
  rintro e w8 ⟨rfl, hb8⟩
  have HB8 := Lib.hid (HB7.out.trans (hb8.mono HB7.out.size))
  clear hb8
  go_wp2_with fail
  refine (HY2.out _).mono ?_
  rintro e w9 ⟨rfl, hb9⟩
  have HB9 := Lib.hid (HB8.out.trans (hb9.mono HB8.out.size))
  clear hb9
  go_wp2_with fail
  refine (HS1.out _ (HP.out _ HB9.out) (HE.out _ HB9.out)).mono ?_
  rintro e w10 ⟨rfl, hb10⟩
  have HB10 := Lib.hid (HB9.out.trans (hb10.mono HB9.out.size))
  clear hb10
  rcases HY.out with ⟨rfl, hz, rfl⟩ | ⟨rfl, rfl⟩
  · have HZ := Lib.hid hz
    have HVf := Lib.hid (seal_ok x hz)
    have HH := Lib.hid (head_seal x hz.2.1)
    have HY0 := Lib.hid (show 0 < (sealB x).size from by rw [sealB_size]; omega)
    have HYB := Lib.hid (show (sealB x).size ≤ 4000 from hz.2.2)
    clear hz
    cases R
    · skip
      go_wp2_with fail
      have hv := ver_impl_ok _ w10 HVf.out (HP.out _ HB10.out)
      rw [HH.out] at hv
      refine hv.mono ?_
      rintro e w11 ⟨rfl, hb11⟩
      have HB11 := Lib.hid (HB10.out.trans (hb11.mono HB10.out.size))
      clear hb11 hv
      obtain ⟨cap, w12, hconv, hby, hb12, hlt12⟩ := to_bytes (sealB x) w11
      have HBY := Lib.hid hby
      have HB12 := Lib.hid (HB11.out.trans (hb12.mono HB11.out.size))
      have HL12 := Lib.hid hlt12
      clear hby hb12 hlt12
      go_wp2_with fail
      refine (HAT1.out _ HB12.out).mono ?_
      rintro e w' ⟨rfl, rfl⟩
      obtain ⟨k, hk, hklt⟩ : ∃ k : Nat, (v1 : Int) % ((sealB x).size : Int) = k ∧ k < (sealB x).size := ⟨v1 % (sealB x).size, by simp, Nat.mod_lt _ HY0.out⟩
      have hkl : k < (sealB x).data.toList.length := by rw [len_size]; exact hklt
      obtain ⟨hcell0, hfr⟩ := HBY.out k hkl
      obtain ⟨a, ha⟩ : ∃ a : UInt8, a = (sealB x).data.toList[k] := ⟨_, rfl⟩
      have hcell : w'.cell? ⟨w11.heap.size, k, none⟩ = some (.int .u8 (a.toNat : Int)) := by rw [ha]; exact hcell0
      obtain ⟨r, hr1, hr2, hrl⟩ : ∃ r : Nat, Int.tmod (v2 : Int) 255 = r ∧ (v2 : Int) % 255 = r ∧ r < 255 := ⟨v2 % 255, by rw [Int.tmod_eq_emod_of_nonneg (by omega)]; simp, by simp, Nat.mod_lt _ (by omega)⟩
      obtain ⟨d, hd1, hd0, hdl⟩ : ∃ d : Nat, (1 : Int) + r = d ∧ 0 < d ∧ d < 256 := ⟨1 + r, by simp, by omega, by omega⟩
      have hd2 : IntKind.i64.wrap (1 + (r : Int)) = d := by rw [hd1, IntKind.wrap_i64]; omega
      have hd3 : IntKind.u8.wrap (d : Int) = d := by rw [IntKind.wrap_u8]; omega
      obtain ⟨c, hcne, hxor⟩ := flip a d hd0 hdl
      have HBad := Lib.hid (changed_bad x HZ.out k c hkl (by rw [← ha]; exact hcne))
      clear hcell0 ha
      have HCZ := Lib.hid (chB_size (sealB x) k c)
      go_wp2_with fail
      refine wp_region_still_tail 13 (by kernel_rfl) (by kernel_rfl) ?_
      simp only [List.take_succ_cons, List.take_zero, List.drop_succ_cons, List.drop_zero]
      still_step
      still_step
      still_step
      still_step
      still_step
      still_step
      still_step
      still_call (HAT2.out _ HB12.out.drew)
      repeat still_step
      refine wpStill_nil ?_
      change wpList _ _ _ _ _ w'.drew
      obtain ⟨wd, hwd⟩ : ∃ wd, wd = w'.drew := ⟨_, rfl⟩
      rw [← hwd]
      have hcd : wd.cell? ⟨w11.heap.size, k, none⟩ = some (.int .u8 (a.toNat : Int)) := by rw [hwd]; exact hcell
      have hfd : wd.frozen? ⟨w11.heap.size, k, none⟩ = false := by rw [hwd]; exact hfr
      have hbd : BytesAt wd w11.heap.size (sealB x).data.toList := by rw [hwd]; exact HBY.out
      have hbk := back_bytes (sealB x) wd w11.heap.size cap k c hbd hkl
      rw [← hxor] at hbk
      have HB13 := Lib.hid ((show Below w.heap.size w wd from by rw [hwd]; exact HB12.out.drew).setCell (p := ⟨w11.heap.size, k, none⟩) HB11.out.size (.int .u8 (bits .xor .u8 (a.toNat : Int) (d : Int))))
      have HSZ := Lib.hid (show (chB (sealB x) k c).size ≤ 1048576 from by have h1 := HCZ.out; have h2 := HYB.out; omega)
      clear hwd hcell hfr hbd hr1 hr2 hd1 hd2 hd3 hk hconv hxor hcne
      go_wp2_with fail
      refine (ver_impl_bad _ _ HSZ.out HBad.out (HP.out _ HB13.out)).mono ?_
      rintro e w14 ⟨rfl, hb14⟩
      have HB14 := Lib.hid (HB13.out.trans (hb14.mono HB13.out.size))
      clear hb14
      go_wp2
      go_ret
      exact ⟨rfl, HB14.out⟩
    · obtain ⟨rfl, rfl⟩ := HCase.out rfl
      go_wp2_with fail
      have hv := ver_impl_ok _ w10 HVf.out (HP.out _ HB10.out)
      rw [HH.out] at hv
      refine hv.mono ?_
      rintro e w11 ⟨rfl, hb11⟩
      have HB11 := Lib.hid (HB10.out.trans (hb11.mono HB10.out.size))
      clear hb11 hv
      obtain ⟨cap, w12, hconv, hby, hb12, hlt12⟩ := to_bytes (sealB x) w11
      have HBY := Lib.hid hby
      have HB12 := Lib.hid (HB11.out.trans (hb12.mono HB11.out.size))
      have HL12 := Lib.hid hlt12
      clear hby hb12 hlt12
      go_wp2_with fail
      refine (HAT1.out _ HB12.out).mono ?_
      rintro e w' ⟨rfl, rfl⟩
      obtain ⟨k, hk, hklt⟩ : ∃ k : Nat, (v1 : Int) % ((sealB x).size : Int) = k ∧ k < (sealB x).size := ⟨v1 % (sealB x).size, by simp, Nat.mod_lt _ HY0.out⟩
      have hkl : k < (sealB x).data.toList.length := by rw [len_size]; exact hklt
      obtain ⟨hcell0, hfr⟩ := HBY.out k hkl
      obtain ⟨a, ha⟩ : ∃ a : UInt8, a = (sealB x).data.toList[k] := ⟨_, rfl⟩
      have hcell : w'.cell? ⟨w11.heap.size, k, none⟩ = some (.int .u8 (a.toNat : Int)) := by rw [ha]; exact hcell0
      obtain ⟨r, hr1, hr2, hrl⟩ : ∃ r : Nat, Int.tmod (v2 : Int) 255 = r ∧ (v2 : Int) % 255 = r ∧ r < 255 := ⟨v2 % 255, by rw [Int.tmod_eq_emod_of_nonneg (by omega)]; simp, by simp, Nat.mod_lt _ (by omega)⟩
      obtain ⟨d, hd1, hd0, hdl⟩ : ∃ d : Nat, (1 : Int) + r = d ∧ 0 < d ∧ d < 256 := ⟨1 + r, by simp, by omega, by omega⟩
      have hd2 : IntKind.i64.wrap (1 + (r : Int)) = d := by rw [hd1, IntKind.wrap_i64]; omega
      have hd3 : IntKind.u8.wrap (d : Int) = d := by rw [IntKind.wrap_u8]; omega
      obtain ⟨c, hcne, hxor⟩ := flip a d hd0 hdl
      have HBad := Lib.hid (changed_bad x HZ.out k c hkl (by rw [← ha]; exact hcne))
      clear hcell0 ha
      have HCZ := Lib.hid (chB_size (sealB x) k c)
      go_wp2_with fail
      refine wp_region_still_tail 13 (by kernel_rfl) (by kernel_rfl) ?_
      simp only [List.take_succ_cons, List.take_zero, List.drop_succ_cons, List.drop_zero]
      still_step
      still_step
      still_step
      still_step
      still_step
      still_step
      still_step
      still_call (HAT2.out _ HB12.out.drew)
      repeat still_step
      refine wpStill_nil ?_
      change wpList _ _ _ _ _ w'.drew
      obtain ⟨wd, hwd⟩ : ∃ wd, wd = w'.drew := ⟨_, rfl⟩
      rw [← hwd]
      have hcd : wd.cell? ⟨w11.heap.size, k, none⟩ = some (.int .u8 (a.toNat : Int)) := by rw [hwd]; exact hcell
      have hfd : wd.frozen? ⟨w11.heap.size, k, none⟩ = false := by rw [hwd]; exact hfr
      have hbd : BytesAt wd w11.heap.size (sealB x).data.toList := by rw [hwd]; exact HBY.out
      have hbk := back_bytes (sealB x) wd w11.heap.size cap k c hbd hkl
      rw [← hxor] at hbk
      have HB13 := Lib.hid ((show Below w.heap.size w wd from by rw [hwd]; exact HB12.out.drew).setCell (p := ⟨w11.heap.size, k, none⟩) HB11.out.size (.int .u8 (bits .xor .u8 (a.toNat : Int) (d : Int))))
      have HSZ := Lib.hid (show (chB (sealB x) k c).size ≤ 1048576 from by have h1 := HCZ.out; have h2 := HYB.out; omega)
      clear hwd hcell hfr hbd hr1 hr2 hd1 hd2 hd3 hk hconv hxor hcne
      go_wp2_with fail
      refine (ver_impl_bad _ _ HSZ.out HBad.out (HP.out _ HB13.out)).mono ?_
      rintro e w14 ⟨rfl, hb14⟩
      have HB14 := Lib.hid (HB13.out.trans (hb14.mono HB13.out.size))
      clear hb14
      go_wp2
      go_ret
      exact ⟨rfl, HB14.out⟩
  · cases R
    · go_wp2_with fail
      go_ret
      exact ⟨rfl, HB10.out⟩
    · obtain ⟨rfl, rfl⟩ := HCase.out rfl
      go_wp2_with fail
      go_ret
      exact ⟨rfl, HB10.out⟩

/-! ### The row's step. -/
/-- The heap that the initialisers leave meets the condition. -/
theorem door_met (os : Os) (args : Array Value) : laidMetH Tryd.prog laid ((World.doorLaid Tryd.prog 62 os).forCall (fun _ _ => 0) ⟨#[], args, []⟩).memory :=
  laidMetH_of_parts3 (fuel := 8) (laidMet_of_run' 8 (by kernel_rfl) (by kernel_rfl)) (by kernel_rfl) (by kernel_rfl)

set_option maxRecDepth 100000 in
theorem lifted (os : Os) (started : os.Started) (H : Type) (enc : TypeId × Value → H) :
    ReturnsInHanded {} Tryd.checked os 3 .any (fun w args => (Rows.fnStringsSpec.pre enc Tryd.prog Tryd.f3 [] false w args ∧ laidMetH Tryd.prog laid w) ∧ sizedMet enc Tryd.prog Tryd.f3 (OpenSpec.ofChange Rows.fnStringsSpec) false w args)
      (Rows.fnStringsSpec.post enc Tryd.prog Tryd.f3 false true false false) := by
  refine returnsInHanded_of_change_and (C := Tryd.checked) (X := fun w _ => laidMetH Tryd.prog laid w) (fun _ _ _ hh h => h.of_heap hh) own started (by kernel_rfl) Tryd.func3
    (ChangeSpec.witness_shaped (enc := enc) (C := Tryd.checked) (os := os) (X := fun w _ => laidMetH Tryd.prog laid w) false (World.doorLaid Tryd.prog 62 os) #[.slice none 0 0] 8 rfl (World.shaped_of_RefB (by kernel_rfl) (by kernel_rfl)) (by kernel_rfl) (by kernel_rfl) (by kernel_rfl) (door_met os _)) ?_
  intro W base args ds gs before hval0 hW _ _ hLH _
  have hval : ∀ (j : Nat) t v, Tryd.f3.params[j]? = some t → args[j]? = some v → Value.okWide Tryd.prog W .any base t v := hval0
  have hW' := hW
  obtain ⟨p, q, hA0, hV, rfl, hfz, hnd⟩ := hW
  have hA : DataW.TrodAll enc Tryd.prog W 0 (fun _ => true) true Tryd.f3.params.toList args.toList ds p := hA0
  rw [Tryd.params3] at hA hval
  obtain ⟨v0, vs0, d0, ds0, p0, q0, hargs, rfl, rfl, h0, r0⟩ := trodAll_cons hA
  obtain ⟨rfl, rfl, rfl⟩ := trodAll_nil r0
  obtain rfl : args = #[v0] := by cases args; simp_all
  obtain ⟨rfl, rfl⟩ := trodVars_none hV
  obtain ⟨a0, len0, cap0, rfl⟩ := okWide_slice Tryd.underlying22 (hval 0 22 v0 rfl rfl)
  have k0 := h0
  have lt0 : ∀ x ∈ p0, x.block < W.heap.size := by obtain ⟨m, hm⟩ := k0; exact DataW.trod_lt m _ _ _ hm
  obtain ⟨z0, w0⟩ : ∃ zs, IsRow .u8 W a0 len0 cap0 zs := by
    obtain ⟨fuel, hf⟩ := h0
    rcases open_ints Tryd.underlying22 Tryd.underlying5 (by kernel_rfl) hf with ⟨hcs, _⟩ | ⟨x, l, c, zs, hcs, _, hl, hm, hz, _, hcell, hwz⟩
    · simp [Value.cells] at hcs
      obtain ⟨rfl, rfl, rfl⟩ := hcs
      exact ⟨[], .inl ⟨rfl, rfl, rfl, rfl⟩⟩
    · simp [Value.cells] at hcs
      obtain ⟨rfl, rfl, rfl⟩ := hcs
      exact ⟨zs, .inr ⟨_, rfl, hl, hm, by simpa using hz, hcell, hwz⟩⟩
  clear hA0 hval0
  have hL : laidMet Tryd.prog laid W := by
    rw [MakeChecks.laidMetH_plain _ _ _ (by kernel_rfl)] at hLH
    exact hLH
  refine (walk a0 len0 cap0 z0 W w0 hL).mono fun e W' ⟨he, hg⟩ => ?_
  subst he
  exact ⟨_, rfl, _, _, _, [], _, [], hW', trodAll_mk1 (shut_bool Tryd.underlying4 _), (trodAll_cons_mk (Below.trod laidOut (by kernel_rfl) (of_decide_eq_true (by kernel_rfl)) k0 hg lt0) trodAll_mk0), rfl, hg.frame _, fun h => by cases h⟩

theorem over : Rows.FnStringsSaid :=
  OpenClaim.holds_of_wide 3 Tryd.f3 rfl rfl rfl rfl rfl rfl rfl ⟨rfl, rfl, rfl, rfl, rfl⟩ rfl rfl rfl rfl rfl (by kernel_rfl) Tryd.func3 (by kernel_rfl)
    (of_decide_eq_true (by kernel_rfl)) (by unfold Func.isWrapper; first | (rw [if_pos (by decide +kernel)]; kernel_rfl) | (rw [if_neg (by decide +kernel)]; exact ⟨rfl, rfl⟩))
    (fun os started H enc _ => lifted os started H enc)

/-- The statement: the tied card. -/
theorem proved : Rows.FnStringsCardSaid :=
  Claim7.holds_tied_plain_at .later [] [.data, .data, .data, .sentinel, .sentinel] true (true, "44d016fd01514ccdf0da37369bcec9cd2f58696d00e95e5fd9df719d57da5a61") true
    over (fun _ h => by cases h) (by kernel_rfl) (fun _ h => by cases h) fnStrings_row_tie rfl ⟨rfl, rfl⟩ (by kernel_rfl) rfl
    (fun f fn hf hfn => by
      obtain rfl : f = 3 := Option.some.inj ((show Tryd.prog.funcNamed "loop.example/g01031/laws.FnStrings" = some 3 by kernel_rfl).symm.trans hf) |>.symm
      obtain rfl : fn = Tryd.f3 := (Option.some.inj (Tryd.func3.symm.trans hfn)).symm
      exact ⟨by kernel_rfl, fun j t ht => by
        rw [Tryd.params3] at ht
        have hm : t ∈ [22] := by simpa using Array.mem_of_getElem? ht
        have hall : ([22].all fun u => !Tryd.prog.wantsStandIn u) = true := by kernel_rfl
        exact (show Tryd.prog.wantsStandIn t = false by simpa using List.all_eq_true.1 hall t hm)⟩)
    (by kernel_rfl)
#print axioms proved
end Go.Proofs.YtcnpbhbhklmifaaDoor.fnStrings
