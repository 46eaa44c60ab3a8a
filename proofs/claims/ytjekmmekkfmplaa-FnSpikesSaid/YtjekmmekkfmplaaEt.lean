/-
  Flattened tracks, the program: contracts of slices.Clone at []int, impl.Flattened over this translation. Conditions: stated at each theorem.
-/
import Derived.Test.YtjekmmekkfmplaaEm
import Derived.Lib.SliceRun
namespace Go.Proofs.Ytjekmmekkfmplaa
open Go.RowKit
set_option linter.unusedVariables false

theorem own_someE {W : World} {B n T : Nat} {z : Nat} {v : Value} {xs : List Value} (h : W.ownsRow B T z v n xs) (h0 : 0 < n) : ∃ g c, v = .slice (some ⟨g, 0, none⟩) n c := by
  rcases h.2 with ⟨_, h1⟩ | ⟨g, cap, cur, hv, _⟩
  · omega
  · exact ⟨g, cap, hv⟩
set_option maxHeartbeats 1600000 in
theorem clone_ints (g c lo hi : Nat) (T : List Int) (w : World) (ht : IFun w lo hi (some ⟨g, 0, none⟩) T.length (fun j => T.getD j 0)) (hh : hi ≤ w.heap.size) (h0 : 0 < T.length) (hm : T.length ≤ 1000) :
    Calls Try.prog 66 #[.slice (some ⟨g, 0, none⟩) T.length c] w (OwnP T w) := by
  obtain ⟨i0, hi0, hz0, hz1, hz2⟩ := info_parts info3
  have HI := Lib.hid (And.intro hi0 (And.intro hz0 (And.intro hz1 hz2)))
  clear hi0 hz0 hz1 hz2
  have HA := Lib.hid (ifun_cells (ht.on ((Below.refl w.heap.size w).alloc (Nat.le_refl _) (.cells #[] 3)) hh) rfl h0).2
  have HC := Lib.hid (col_start (w := w) 3 1 (Below.refl _ w))
  have H1 : Hid (∀ u ∈ ivs T, u.oneCell' = true) := Lib.hid (by
    intro u hu
    simp only [ivs, List.mem_map] at hu
    obtain ⟨y, _, rfl⟩ := hu
    rfl)
  clear ht
  have heq := Lib.run_eql_slice_nil (P := Try.prog) w 24 3 (some ⟨g, 0, none⟩) T.length c 0 0 Try.underlying24
  go_enter Try.func66, Try.ntmps66
  go_wp2_with (at_builtin; go_loud (refine wpList_append_own _ rfl _ _ 24 rfl w.heap.size 3 i0 (.int .i64 0) 1 8 Try.underlying24 HI.out.1 HI.out.2.1 HI.out.2.2.1 HI.out.2.2.2 rfl (by decide) _ _ _ rfl HC.out.1 ⟨g, 0, none⟩ T.length c (ivs T) rfl (by rw [ivs_len, Nat.mul_one]) HA.out H1.out (by unfold maxLen; omega) (by omega) (by simp) ?_; intro v' w5 hown' hgrow _; have HN := Lib.hid (And.intro hown' (HC.out.2.grown hgrow (by simp) (fun j hj => (HC.out.1.lt j hj).1))); clear hown' hgrow))
  have hn3 := HN.out
  rw [Nat.zero_add, List.nil_append] at hn3
  obtain ⟨g5, cc, rfl⟩ := own_someE hn3.1 h0
  have HP : Hid (OwnP T w (.returned (.slice (some ⟨g5, 0, none⟩) T.length cc)) w5) := Lib.hid ⟨g5, cc, rfl, ifun_of_own hn3.1, hn3.2⟩
  clear hn3
  go_ret
  exact HP.out
set_option maxRecDepth 20000 in
set_option maxHeartbeats 6400000 in
theorem flat_impl (A : Option Addr) (C lo hi : Nat) (T : List Int) (l : Int) (w : World) (ht : IFun w lo hi A T.length (fun j => T.getD j 0)) (hh : hi ≤ w.heap.size) (hm : T.length ≤ 1048576) :
    Calls Try.prog 28 #[.slice A T.length C, .int .i64 l] w (FlPost T l w) := by
  rcases h2 : trB T with _ | _
  · have HI := Lib.hid ht
    have H1 := Lib.hid h2
    have HP := Lib.hid (fl_no (ak_1 (l := l) h2) (col_start 3 1 (Below.refl w.heap.size w)))
    clear h2 ht
    go_enter Try.func28, Try.ntmps28
    go_wp2_with fail
    refine (isTrE_impl _ _ _ _ _ _ H1.out _ HI.out hm).mono ?_
    rintro e w' ⟨rfl, rfl⟩
    go_wp2_with fail
    go_ret3
    exact HP.out
  rcases h3 : lmB l with _ | _
  · have HI := Lib.hid ht
    have H1 := Lib.hid h2
    have H2 := Lib.hid h3
    have HP := Lib.hid (fl_no (ak_2 (T := T) h3) (col_start 3 1 (Below.refl w.heap.size w)))
    clear h2 h3 ht
    go_enter Try.func28, Try.ntmps28
    go_wp2_with fail
    refine (isTrE_impl _ _ _ _ _ _ H1.out _ HI.out hm).mono ?_
    rintro e w' ⟨rfl, rfl⟩
    go_wp2_with fail
    refine (limE_impl _ _ H2.out _).mono ?_
    rintro e w' ⟨rfl, rfl⟩
    go_wp2_with fail
    go_ret3
    exact HP.out
  have h1 := ak_3 h2 h3
  have H9 := Lib.hid h2
  have H2 := Lib.hid h3
  have H1 := Lib.hid h1
  have HT := Lib.hid (ak_is h1)
  have h03 := (ak_is h1).1.lo
  have h30 := (ak_is h1).1.hi
  obtain ⟨g, rfl, _⟩ := ht 0 (by omega)
  have HI := Lib.hid ht
  clear h1 h2 h3 ht
  go_enter Try.func28, Try.ntmps28
  go_wp2_with fail
  refine (isTrE_impl _ _ _ _ _ _ H9.out _ HI.out hm).mono ?_
  rintro e w' ⟨rfl, rfl⟩
  go_wp2_with fail
  refine (limE_impl _ _ H2.out _).mono ?_
  rintro e w' ⟨rfl, rfl⟩
  go_wp2_with fail
  refine (clone_ints _ _ _ _ _ _ HI.out hh (by omega) (by omega)).mono ?_
  rintro e w1 ⟨q, Cq, rfl, hf, hb⟩
  have HB1 := Lib.hid hb
  have HO1 := Lib.hid hf
  clear hf hb
  go_wp2_with fail
  go_loopw [7, 8] (fun s i wr => ∃ (n q C : Nat) (U : List Int), n ≤ 30 ∧ i = .int .i64 n ∧ s = .slice (some ⟨q, 0, none⟩) U.length C ∧ Hid (flR l 30 T = ((flR l (30 - n) U).1, (flR l (30 - n) U).2 + n)) ∧ Hid (Trk U) ∧ Hid (IFun wr w.heap.size wr.heap.size (some ⟨q, 0, none⟩) U.length (fun j => U.getD j 0)) ∧ Hid (Below w.heap.size w wr)) (fun _ i _ => 30 - (intOf i).toNat)
  case atStart => exact ⟨0, q, Cq, T, Nat.zero_le _, rfl, rfl, Lib.hid rfl, Lib.hid HT.out.1, HO1, HB1⟩
  case round =>
    obtain ⟨n, q, C, U, hn, rfl, rfl, hR, hU, hO, hB⟩ := hrel
    by_cases hlt : n < 30
    · go_wp2_with fail
      refine (has_in _ _ _ _ _ l _ hO.out (Nat.le_refl _) hU.out).mono ?_
      rintro e w2 ⟨rfl, hb⟩
      have HB2 := Lib.hid (bthen hB.out hb hB.out.size)
      have HO2 := Lib.hid (ifun_up hO.out hb)
      rcases hq : quB U l with _ | _
      · have HR2 := Lib.hid (fl_go hR.out hlt hq)
        clear hq hb
        go_wp2_with fail
        refine (filter_in _ _ _ _ _ _ HO2.out (Nat.le_refl _) hU.out).mono ?_
        rintro e w3 ⟨rfl, hf, hb⟩
        have HB3 := Lib.hid (bthen HB2.out hb HB2.out.size)
        have HO3 : Hid (IFun w3 w.heap.size w3.heap.size (some ⟨w2.heap.size, 0, none⟩) (mfL U).length (fun j => (mfL U).getD j 0)) := by
          rw [mfL_len]
          exact Lib.hid (hf.wide HB2.out.size (filt_lt hf (by have := hU.out.lo; omega)))
        have HU3 := Lib.hid (mf_trk hU.out)
        clear hf hb
        go_wp2_with fail
        go_roundw
        case rel => exact ⟨n + 1, w2.heap.size, U.length, mfL U, by omega, by go_num, by rw [mfL_len], HR2, HU3, HO3, HB3⟩
        case measure => simp [intOf]; omega
      · have HR2 := Lib.hid (fl_stop hR.out (.inr hq))
        clear hq hb
        go_wp2_with fail
        go_ret3
        exact fl_yes H1.out HR2.out HO2.out HB2.out
    · obtain rfl : n = 30 := by omega
      have HR2 := Lib.hid (fl_stop hR.out (.inl rfl))
      go_wp2_with fail
      go_ret3
      exact fl_yes H1.out HR2.out hO.out hB.out
end Go.Proofs.Ytjekmmekkfmplaa
