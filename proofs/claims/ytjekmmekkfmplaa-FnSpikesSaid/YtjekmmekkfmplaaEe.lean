/-
  Tracks with limits, keep lists and other tracks that are drawn: contracts of spec.DrawIsTrack, DrawSpikesIn, DrawKeptDepths, DrawShoalFilter, DrawWhereShoaler and those that call them over this translation. Conditions: stated at each theorem.
-/
import Derived.Test.YtjekmmekkfmplaaEd
import Derived.Test.YtjekmmekkfmplaaEf
namespace Go.Proofs.Ytjekmmekkfmplaa
open Go.RowKit Go.Sort
set_option linter.unusedVariables false

theorem below_readerE {w W : World} {o : Obj} (hg : (w.alloc o).grownBy W (some w.heap.size)) : Below w.heap.size w W := below_of ((Below.refl w.heap.size w).alloc (Nat.le_refl _) o) hg (by simp) (Nat.le_refl _)
theorem grown_reflE (w : World) (r : Option Nat) : w.grownBy w r := ⟨rfl, rfl, rfl, Nat.le_refl _, fun _ _ _ => rfl⟩
/-- A row of numbers that a draw hands back. -/
def RowE (w : World) (P : List Int) (gp : Nat) (w' : World) : Prop := P.length ≤ 32 ∧ IFun w' w.heap.size w'.heap.size (some ⟨gp, 0, none⟩) P.length (fun j => P.getD j 0)
def RowC (w : World) (P : List Int) (gp cp : Nat) (w' : World) : Prop := (P.length ≤ 32 ∧ P.length ≤ cp) ∧ IFun w' w.heap.size w'.heap.size (some ⟨gp, 0, none⟩) P.length (fun j => P.getD j 0)
theorem rowC_of {w w' : World} {P : List Int} {gp cp : Nat} (h : RowE w P gp w') (hc : P.length ≤ cp) : RowC w P gp cp w' := ⟨⟨h.1, hc⟩, h.2⟩
theorem row_set {w' w w1 : World} {K : List Int} {gq cq j : Nat} {x : Int} (h : w'.ownsRow w1.heap.size 3 1 (.slice (some ⟨gq, 0, none⟩) K.length cq) K.length (ivs K)) (hj : j < K.length) (hl : K.length ≤ 32) (hw : w.heap.size ≤ w1.heap.size) : RowE w (K.set j x) gq (w'.setCell ⟨gq, j, none⟩ (.int .i64 x)) := by
  have hsl : (K.set j x).length = K.length := List.length_set
  have hz : (w'.setCell ⟨gq, j, none⟩ (.int .i64 x)).heap.size = w'.heap.size := by simp [World.setCell]
  refine ⟨by omega, ?_⟩
  rw [hsl, hz]
  exact (((ifun_of_own h).set x).congr fun i hi => by
    by_cases e : i = j
    · subst e; rw [if_pos rfl, getD_set_eq hj]
    · rw [if_neg e, getD_set_ne (Ne.symm e)]).wide hw (Nat.le_refl _)
def DrawE0 (w : World) (e : Ending) (w' : World) : Prop := ∃ (P : List Int) (gp cp : Nat), e = .returned (.slice (some ⟨gp, 0, none⟩) P.length cp) ∧ RowC w P gp cp w' ∧ Below w.heap.size w w'
def DrawE1 (w : World) (e : Ending) (w' : World) : Prop := ∃ (P : List Int) (gp cp : Nat) (x : Int), e = .returned (.tuple #[.slice (some ⟨gp, 0, none⟩) P.length cp, .int .i64 x]) ∧ RowC w P gp cp w' ∧ (-1 ≤ x ∧ x ≤ 5001) ∧ Below w.heap.size w w'
def DrawE2 (w : World) (e : Ending) (w' : World) : Prop := ∃ (P : List Int) (gp cp : Nat) (Q : List Int) (gq cq : Nat), e = .returned (.tuple #[.slice (some ⟨gp, 0, none⟩) P.length cp, .slice (some ⟨gq, 0, none⟩) Q.length cq]) ∧ RowE w P gp w' ∧ RowE w Q gq w' ∧ Below w.heap.size w w'
theorem row_later {W w1 w' w : World} {P : List Int} {gp g : Nat} (hl : P.length ≤ 31) (h : IFun w1 W.heap.size w1.heap.size (some ⟨gp, 0, none⟩) P.length (fun j => P.getD j 0)) (hg : w1.grownBy w' (some g)) (hgl : g < W.heap.size) (hw : w.heap.size ≤ W.heap.size) : RowE w P gp w' :=
  ⟨by omega, (ifun_grown h hg hgl (Nat.le_refl _)).wide hw hg.size⟩
set_option maxRecDepth 20000 in
set_option maxHeartbeats 3200000 in
theorem drawE_is (A : Option Addr) (n c : Nat) (w : World) (h : CodeRow w.heap.size A n w) : Calls Try.prog 74 #[.slice A n c] w (DrawE0 w) := by
  have HC0 := Lib.hid (cur_new w A n c 52 h)
  clear h
  go_enter Try.func74, Try.ntmps74
  go_wp2_with fail
  refine (track_any _ _ _ _ _ _ _ HC0.out (by omega)).mono ?_
  rintro e w1 ⟨P, gp, cp, k1, h2, h31, hk1, hgp, hgp2, rfl, hv, hi, hc, hg⟩
  have HP1 := Lib.hid hi
  have HC1 := Lib.hid hc
  have HG1 := Lib.hid hg
  have HV1 := Lib.hid hv
  have hz : w.heap.size < (w.alloc (.cells #[.slice A n c, .int .i64 0, .int .u64 0] 52)).heap.size := by simp
  clear hi hc hg hv HC0
  have HD : Hid (RowC w P gp cp w1) := Lib.hid (rowC_of (row_later h31 HP1.out (grown_reflE w1 (some w.heap.size)) hz (Nat.le_of_lt hz)) (by omega))
  go_wp2_with fail
  go_ret
  exact ⟨P, gp, cp, rfl, HD.out, below_readerE HG1.out⟩
set_option maxRecDepth 20000 in
set_option maxHeartbeats 3200000 in
theorem drawE_median (A : Option Addr) (n c : Nat) (w : World) (h : CodeRow w.heap.size A n w) : Calls Try.prog 32 #[.slice A n c] w (DrawE0 w) := by
  have H := Lib.hid h
  clear h
  go_enter Try.func32, Try.ntmps32
  go_wp2_with fail
  refine (drawE_is _ _ _ _ H.out).mono ?_
  rintro e w1 ⟨P, gp, cp, rfl, hr, hb⟩
  have HR := Lib.hid (And.intro hr hb)
  clear hr hb
  go_wp2_with fail
  go_ret
  exact ⟨P, gp, cp, rfl, HR.out⟩
set_option maxRecDepth 20000 in
set_option maxHeartbeats 3200000 in
theorem drawE_rough (A : Option Addr) (n c : Nat) (w : World) (h : CodeRow w.heap.size A n w) : Calls Try.prog 38 #[.slice A n c] w (DrawE0 w) := by
  have H := Lib.hid h
  clear h
  go_enter Try.func38, Try.ntmps38
  go_wp2_with fail
  refine (drawE_is _ _ _ _ H.out).mono ?_
  rintro e w1 ⟨P, gp, cp, rfl, hr, hb⟩
  have HR := Lib.hid (And.intro hr hb)
  clear hr hb
  go_wp2_with fail
  go_ret
  exact ⟨P, gp, cp, rfl, HR.out⟩
set_option maxRecDepth 20000 in
set_option maxHeartbeats 3200000 in
theorem drawE_spikes (A : Option Addr) (n c : Nat) (w : World) (h : CodeRow w.heap.size A n w) : Calls Try.prog 16 #[.slice A n c] w (DrawE1 w) := by
  have HC0 := Lib.hid (cur_new w A n c 52 h)
  clear h
  go_enter Try.func16, Try.ntmps16
  go_wp2_with fail
  refine (track_any _ _ _ _ _ _ _ HC0.out (by omega)).mono ?_
  rintro e w1 ⟨P, gp, cp, k1, h2, h31, hk1, hgp, hgp2, rfl, hv, hi, hc, hg⟩
  have HP1 := Lib.hid hi
  have HC1 := Lib.hid hc
  have HG1 := Lib.hid hg
  have HV1 := Lib.hid hv
  have hz : w.heap.size < (w.alloc (.cells #[.slice A n c, .int .i64 0, .int .u64 0] 52)).heap.size := by simp
  clear hi hc hg hv HC0
  go_wp2_with fail
  refine (limit12_any _ _ _ _ _ _ _ HC1.out (by omega)).mono ?_
  rintro e w2 ⟨x, hx, rfl, hc, hg⟩
  have HD : Hid (RowC w P gp cp w2) := Lib.hid (rowC_of (row_later h31 HP1.out hg hz (Nat.le_of_lt hz)) (by omega))
  have HB := Lib.hid (below_readerE (grown_trans HG1.out hg))
  have HX : Hid (-1 ≤ x ∧ x ≤ 5001) := Lib.hid (by unfold Lim12 at hx; omega)
  clear hc hg hx
  go_wp2_with fail
  go_ret2
  exact ⟨P, gp, cp, x, rfl, HD.out, HX.out, HB.out⟩
set_option maxRecDepth 20000 in
set_option maxHeartbeats 3200000 in
theorem drawE_smooth (A : Option Addr) (n c : Nat) (w : World) (h : CodeRow w.heap.size A n w) : Calls Try.prog 41 #[.slice A n c] w (DrawE1 w) := by
  have H := Lib.hid h
  clear h
  go_enter Try.func41, Try.ntmps41
  go_wp2_with fail
  refine (drawE_spikes _ _ _ _ H.out).mono ?_
  rintro e w1 ⟨P, gp, cp, x, rfl, hr⟩
  have HR := Lib.hid hr
  clear hr
  go_wp2_with fail
  go_ret2
  exact ⟨P, gp, cp, x, rfl, HR.out⟩
set_option maxRecDepth 20000 in
set_option maxHeartbeats 3200000 in
theorem drawE_flat (A : Option Addr) (n c : Nat) (w : World) (h : CodeRow w.heap.size A n w) : Calls Try.prog 27 #[.slice A n c] w (DrawE1 w) := by
  have H := Lib.hid h
  clear h
  go_enter Try.func27, Try.ntmps27
  go_wp2_with fail
  refine (drawE_spikes _ _ _ _ H.out).mono ?_
  rintro e w1 ⟨P, gp, cp, x, rfl, hr⟩
  have HR := Lib.hid hr
  clear hr
  go_wp2_with fail
  go_ret2
  exact ⟨P, gp, cp, x, rfl, HR.out⟩
set_option maxRecDepth 20000 in
set_option maxHeartbeats 3200000 in
theorem drawE_shoal (A : Option Addr) (n c : Nat) (w : World) (h : CodeRow w.heap.size A n w) : Calls Try.prog 35 #[.slice A n c] w (DrawE1 w) := by
  have HC0 := Lib.hid (cur_new w A n c 52 h)
  clear h
  go_enter Try.func35, Try.ntmps35
  go_wp2_with fail
  refine (track_any _ _ _ _ _ _ _ HC0.out (by omega)).mono ?_
  rintro e w1 ⟨P, gp, cp, k1, h2, h31, hk1, hgp, hgp2, rfl, hv, hi, hc, hg⟩
  have HP1 := Lib.hid hi
  have HC1 := Lib.hid hc
  have HG1 := Lib.hid hg
  have HV1 := Lib.hid hv
  have hz : w.heap.size < (w.alloc (.cells #[.slice A n c, .int .i64 0, .int .u64 0] 52)).heap.size := by simp
  clear hi hc hg hv HC0
  go_wp2_with fail
  refine (among_at (fun x => -1 ≤ x ∧ x ≤ 5001) _ _ _ _ _ _ _ 7 [0, 1, 2, 3, 10, 11, -1] _ HC1.out rfl (by omega) (by decide) (by decide) (by intro x hx; simp only [List.mem_cons, List.not_mem_nil, or_false] at hx; omega)).mono ?_
  rintro e w2 ⟨x, hx, rfl, hc, hg⟩
  have HD : Hid (RowC w P gp cp w2) := Lib.hid (rowC_of (row_later h31 HP1.out hg hz (Nat.le_of_lt hz)) (by omega))
  have HB := Lib.hid (below_readerE (grown_trans HG1.out hg))
  have HX := Lib.hid hx
  clear hc hg hx
  go_wp2_with fail
  go_ret2
  exact ⟨P, gp, cp, x, rfl, HD.out, HX.out, HB.out⟩
set_option maxRecDepth 20000 in
set_option maxHeartbeats 6400000 in
theorem drawE_kept (A : Option Addr) (n c : Nat) (w : World) (h : CodeRow w.heap.size A n w) : Calls Try.prog 30 #[.slice A n c] w (DrawE2 w) := by
  obtain ⟨i0, hi, hz0, hz1, hz2⟩ := info_parts info3
  have HJ := Lib.hid (And.intro hi (And.intro hz0 (And.intro hz1 hz2)))
  clear hi hz0 hz1 hz2
  have HC0 := Lib.hid (cur_new w A n c 52 h)
  clear h
  go_enter Try.func30, Try.ntmps30
  go_wp2_with fail
  refine (track_any _ _ _ _ _ _ _ HC0.out (by omega)).mono ?_
  rintro e w1 ⟨P, gp, cp, k1, h2, h31, hk1, hgp, hgp2, rfl, hv, hi, hc, hg⟩
  have HP1 := Lib.hid hi
  have HC1 := Lib.hid hc
  have HG1 := Lib.hid hg
  have HV1 := Lib.hid hv
  have hz : w.heap.size < (w.alloc (.cells #[.slice A n c, .int .i64 0, .int .u64 0] 52)).heap.size := by simp
  clear hi hc hg hv HC0
  have hgl1 : w.heap.size < w1.heap.size := HC1.out.lt
  have HI2 : Hid ((w1.alloc (.cells #[] 3)).ownsRow w1.heap.size 3 1 (.slice (some ⟨w1.heap.size, 0, none⟩) 0 0) 0 (ivs [])) := Lib.hid (col_start (w := w1) 3 1 (Below.refl _ _)).1
  have HC2 := Lib.hid (HC1.out.alloc (.cells #[] 3))
  have HG2 : Hid (w1.grownBy (w1.alloc (.cells #[] 3)) (some w.heap.size)) := Lib.hid (World.grownBy_alloc _ _ _)
  clear HC1
  go_wp2_with fail
  go_loopw [6, 7] (fun s i wr => ∃ (K : List Int) (gq cq k' : Nat), K.length ≤ P.length ∧ k' ≤ k1 + K.length ∧ s = .slice (some ⟨gq, 0, none⟩) K.length cq ∧ i = .int .i64 K.length ∧ Hid (wr.ownsRow w1.heap.size 3 1 (.slice (some ⟨gq, 0, none⟩) K.length cq) K.length (ivs K)) ∧ Hid (Cur w.heap.size A n c w.heap.size k' wr) ∧ Hid (w1.grownBy wr (some w.heap.size))) (fun _ i _ => P.length - (intOf i).toNat)
  case atStart => exact ⟨[], w1.heap.size, 0, _, by simp, by simp, rfl, rfl, HI2, HC2, HG2⟩
  case round =>
    clear HI2 HC2 HG2
    obtain ⟨K, gq, cq, k', hkl, hk3, rfl, rfl, hI, hC, hG⟩ := hrel
    by_cases hlt : K.length < P.length
    · go_wp2_with fail
      refine (among_at (fun x => -1 ≤ x ∧ x ≤ 2) _ _ _ _ _ _ _ 3 [0, 1, 1] _ hC.out rfl (by omega) (by decide) (by decide) (by intro x hx; simp only [List.mem_cons, List.not_mem_nil, or_false] at hx; omega)).mono ?_
      rintro e w4 ⟨y, hy, rfl, hc, hg⟩
      have HC6 := Lib.hid hc
      have HG6 := Lib.hid (grown_trans hG.out hg)
      have HI6 := Lib.hid (own_any hI.out hg (fun i e => by have := Option.some.inj e; omega))
      clear hc hg hC hG hI
      have HV : Hid (∀ b, (Value.slice (some ⟨gq, 0, none⟩) K.length cq).ownBlock = some b → w1.heap.size ≤ b) := Lib.hid fun b e => by have e2 : gq = b := Option.some.inj e; have := (HI6.out.lt b e).1; omega
      have HNA := Lib.hid (World.ownsRow.alloc HI6.out (.cells #[.int .i64 (y)] 3))
      have HS4 : Hid (w1.heap.size ≤ (w4.alloc (.cells #[.int .i64 (y)] 3)).heap.size) := Lib.hid (by have h1 := HG6.out.size; simp; omega)
      go_wp2_with (at_builtin; go_loud (refine wpList_append_own _ rfl _ _ 24 rfl w1.heap.size 3 i0 (.int .i64 0) 1 8 Try.underlying24 HJ.out.1 HJ.out.2.1 HJ.out.2.2.1 HJ.out.2.2.2 rfl (by decide) _ _ _ rfl HNA.out ⟨w4.heap.size, 0, none⟩ 1 1 [.int .i64 (y)] rfl rfl (one_newJ _ _ _) (by simp [Value.oneCell']) (by unfold maxLen; omega) (by omega) HS4.out ?_; intro v2 w5 hown' hgrow hne; have HN5 := Lib.hid hown'; have HGR := Lib.hid hgrow; clear hown' hgrow hne))
      obtain ⟨gp2, cp2, rfl, _, _⟩ := own_capsJ HN5.out
      have HI5 : Hid (w5.ownsRow w1.heap.size 3 1 (.slice (some ⟨gp2, 0, none⟩) (K ++ [y]).length cp2) (K ++ [y]).length (ivs (K ++ [y]))) := by rw [ivs_snoc, List.length_append]; exact HN5
      have HC5 := Lib.hid ((HC6.out.alloc (.cells #[.int .i64 (y)] 3)).past hgl1 HGR.out HV.out)
      have HG5 := Lib.hid (grown_past (w := w1) (grown_trans HG6.out (World.grownBy_alloc w4 (.cells #[.int .i64 (y)] 3) (some w.heap.size))) HGR.out HV.out)
      have hll : (K ++ [y]).length = K.length + 1 := by simp
      clear HC6 HG6 HI6 HNA HGR HV HN5
      go_roundw
      case rel => exact ⟨K ++ [y], gp2, cp2, _, by rw [hll]; omega, by rw [hll]; omega, by first | rfl | rw [hll], by rw [hll]; go_num, HI5, HC5, HG5⟩
      case measure => simp [intOf]; omega
    · have hk2 : 2 ≤ K.length := by omega
      have hk31 : K.length ≤ 31 := by omega
      go_wp2_with fail
      refine (pick_any _ _ _ _ _ _ 16 _ hC.out (by omega) (by decide) (by decide)).mono ?_
      rintro e w4 ⟨u, hu, rfl, hc, hg⟩
      have HC6 := Lib.hid hc
      have HG6 := Lib.hid (grown_trans hG.out hg)
      have HI6 := Lib.hid (own_any hI.out hg (fun i e => by have := Option.some.inj e; omega))
      clear hc hg hC hG hI
      by_cases h0 : u = 0
      · subst h0
        have HV : Hid (∀ b, (Value.slice (some ⟨gq, 0, none⟩) K.length cq).ownBlock = some b → w1.heap.size ≤ b) := Lib.hid fun b e => by have e2 : gq = b := Option.some.inj e; have := (HI6.out.lt b e).1; omega
        have HNA := Lib.hid (World.ownsRow.alloc HI6.out (.cells #[.int .i64 (1)] 3))
        have HS4 : Hid (w1.heap.size ≤ (w4.alloc (.cells #[.int .i64 (1)] 3)).heap.size) := Lib.hid (by have h1 := HG6.out.size; simp; omega)
        go_wp2_with (at_builtin; go_loud (refine wpList_append_own _ rfl _ _ 24 rfl w1.heap.size 3 i0 (.int .i64 0) 1 8 Try.underlying24 HJ.out.1 HJ.out.2.1 HJ.out.2.2.1 HJ.out.2.2.2 rfl (by decide) _ _ _ rfl HNA.out ⟨w4.heap.size, 0, none⟩ 1 1 [.int .i64 (1)] rfl rfl (one_newJ _ _ _) (by simp [Value.oneCell']) (by unfold maxLen; omega) (by omega) HS4.out ?_; intro v2 w5 hown' hgrow hne; have HN5 := Lib.hid hown'; have HGR := Lib.hid hgrow; clear hown' hgrow hne))
        obtain ⟨gp2, cp2, rfl, _, _⟩ := own_capsJ HN5.out
        have HI5 : Hid (w5.ownsRow w1.heap.size 3 1 (.slice (some ⟨gp2, 0, none⟩) (K ++ [1]).length cp2) (K ++ [1]).length (ivs (K ++ [1]))) := by rw [ivs_snoc, List.length_append]; exact HN5
        have HC5 := Lib.hid ((HC6.out.alloc (.cells #[.int .i64 (1)] 3)).past hgl1 HGR.out HV.out)
        have HG5 := Lib.hid (grown_past (w := w1) (grown_trans HG6.out (World.grownBy_alloc w4 (.cells #[.int .i64 (1)] 3) (some w.heap.size))) HGR.out HV.out)
        have hll : (K ++ [1]).length = K.length + 1 := by simp
        clear HC6 HG6 HI6 HNA HGR HV HN5
        go_ret2
        exact ⟨P, gp, cp, K ++ [1], gp2, cp2, by rw [hll]; rfl, row_later h31 HP1.out HG5.out hz (Nat.le_of_lt hz), ⟨by omega, (ifun_of_own HI5.out).wide (Nat.le_trans (Nat.le_of_lt hz) HG1.out.size) (Nat.le_refl _)⟩, below_readerE (grown_trans HG1.out HG5.out)⟩
      by_cases h1 : u = 1
      · subst h1
        go_wp2_with fail
        refine (among_at (fun x => -1 ≤ x ∧ x ≤ 2) _ _ _ _ _ _ _ 2 [-1, 2] _ HC6.out rfl (by omega) (by decide) (by decide) (by intro x hx; simp only [List.mem_cons, List.not_mem_nil, or_false] at hx; omega)).mono ?_
        rintro e w6 ⟨x, hx, rfl, hc, hg⟩
        have HC8 := Lib.hid hc
        have HG8 := Lib.hid (grown_trans HG6.out hg)
        have HI8 := Lib.hid (own_any HI6.out hg (fun i e => by have := Option.some.inj e; omega))
        clear hc hg HC6 HG6 HI6
        obtain ⟨u0, o1⟩ : ∃ u0, w6.cell? ⟨gq, 0, none⟩ = some u0 := by
          obtain ⟨b, e, _, _, h, _⟩ := ifun_of_own HI8.out 0 (by omega)
          obtain rfl : gq = b := by injection e with e; injection e
          exact ⟨_, h⟩
        have f1 : w6.frozen? ⟨gq, 0, none⟩ = false := HI8.out.frozenAt 0
        have hlo := (HI8.out.lt gq rfl).1
        have hhi := (HI8.out.lt gq rfl).2
        have HQ : Hid (RowE w (K.set 0 x) gq (w6.setCell ⟨gq, 0, none⟩ (.int .i64 x))) := Lib.hid (row_set HI8.out (by omega) (by omega) (Nat.le_trans (Nat.le_of_lt hz) HG1.out.size))
        have HG9 := Lib.hid (grown_put HG8.out hlo 0 (.int .i64 x))
        have hsl : (K.set 0 x).length = K.length := List.length_set
        go_wp2_with fail
        go_ret2
        exact ⟨P, gp, cp, K.set 0 x, gq, cq, by rw [hsl]; rfl, row_later h31 HP1.out HG9.out hz (Nat.le_of_lt hz), HQ.out, below_readerE (grown_trans HG1.out HG9.out)⟩
      have d0 : (((u : Nat) : Int) == 0) = false := beq_eq_false_iff_ne.2 (by omega)
      have d1 : (((u : Nat) : Int) == 1) = false := beq_eq_false_iff_ne.2 (by omega)
      go_wp2_with fail
      go_ret2
      exact ⟨P, gp, cp, K, gq, cq, rfl, row_later h31 HP1.out HG6.out hz (Nat.le_of_lt hz), ⟨by omega, (ifun_of_own HI6.out).wide (Nat.le_trans (Nat.le_of_lt hz) HG1.out.size) (Nat.le_refl _)⟩, below_readerE (grown_trans HG1.out HG6.out)⟩
theorem val_wider {Q : List Int} {d : Nat} {x : Int} {k : Nat} (h : ∀ y ∈ Q, -1001 - 5 * (d : Int) ≤ y ∧ y ≤ 20001 + 5 * (d : Int)) (hx : -1001 - 5 * ((d + 1 : Nat) : Int) ≤ x ∧ x ≤ 20001 + 5 * ((d + 1 : Nat) : Int)) : ∀ y ∈ Q.set k x, -1001 - 5 * ((d + 1 : Nat) : Int) ≤ y ∧ y ≤ 20001 + 5 * ((d + 1 : Nat) : Int) := fun y hy => by
  rcases List.mem_or_eq_of_mem_set hy with h1 | h1
  · have := h y h1
    omega
  · rw [h1]; exact hx
theorem ifun_set12 {w : World} {lo hi g k : Nat} {Q : List Int} (h : IFun w lo hi (some ⟨g, 0, none⟩) Q.length (fun j => Q.getD j 0)) (hk : k < Q.length) (x : Int) : IFun (w.setCell ⟨g, k, none⟩ (.int .i64 x)) lo hi (some ⟨g, 0, none⟩) (Q.set k x).length (fun j => (Q.set k x).getD j 0) := by
  rw [show (Q.set k x).length = Q.length from List.length_set]
  exact (h.set x).congr fun i hi => by
    by_cases e : i = k
    · subst e; rw [if_pos rfl, getD_set_eq hk]
    · rw [if_neg e, getD_set_ne (Ne.symm e)]
set_option maxRecDepth 20000 in
set_option maxHeartbeats 6400000 in
theorem drawE_where (A : Option Addr) (n c : Nat) (w : World) (h : CodeRow w.heap.size A n w) : Calls Try.prog 45 #[.slice A n c] w (DrawE2 w) := by
  have HC0 := Lib.hid (cur_new w A n c 52 h)
  clear h
  go_enter Try.func45, Try.ntmps45
  go_wp2_with fail
  refine (track_any _ _ _ _ _ _ _ HC0.out (by omega)).mono ?_
  rintro e w1 ⟨P, gp, cp, k1, h2, h31, hk1, hgp, hgp2, rfl, hv, hi, hc, hg⟩
  have HP1 := Lib.hid hi
  have HC1 := Lib.hid hc
  have HG1 := Lib.hid hg
  have HV1 := Lib.hid hv
  have hz : w.heap.size < (w.alloc (.cells #[.slice A n c, .int .i64 0, .int .u64 0] 52)).heap.size := by simp
  clear hi hc hg hv HC0
  have hgl1 : w.heap.size < w1.heap.size := HC1.out.lt
  have HZ1 := Lib.hid HG1.out.size
  go_wp2_with fail
  refine (one_any _ _ _ _ _ _ 4 _ HC1.out (by omega) (by decide) (by decide)).mono ?_
  rintro e w2 ⟨b, rfl, hc, hg⟩
  have HC2 := Lib.hid hc
  have HG2 := Lib.hid hg
  clear hc hg HC1
  rcases b with _ | _
  · have HP2 := Lib.hid (ifun_grown HP1.out HG2.out hz (Nat.le_refl _))
    go_wp2_with fail
    refine (own_spec _ _ _ _ _ _ (HP2.out.wide (Nat.le_refl _) HG2.out.size) (Nat.le_refl _) (by omega) (by omega)).mono ?_
    rintro e w3 ⟨gq, cq, rfl, hc⟩
    have hq1 := (hc.1.lt gq rfl).1
    have hq2 := (hc.1.lt gq rfl).2
    have hz2 := HG2.out.size
    have HQ3 := Lib.hid (ifun_of_own hc.1)
    have HC3 := Lib.hid (HC2.out.past (w := w2) HC2.out.lt (grown_of_below hc.2 (some w2.heap.size)) (fun b e => by have := Option.some.inj e; omega))
    have HG3 := Lib.hid (grown_trans HG2.out (grown_of_below hc.2 (some w.heap.size)))
    have hgl2 : w.heap.size < w2.heap.size := HC2.out.lt
    clear hc HC2
    go_wp2_with fail
    refine (pick_any _ _ _ _ _ _ 4 _ HC3.out (by omega) (by decide) (by decide)).mono ?_
    rintro e w4 ⟨r0, hr0, rfl, hc, hg⟩
    have HC4 := Lib.hid hc
    have HG4 := Lib.hid (grown_trans HG3.out hg)
    have HQ4 := Lib.hid (ifun_grown HQ3.out hg hgl2 (Nat.le_refl _))
    have HS4 := Lib.hid hg.size
    have HV4 : Hid (∀ y ∈ P, -1001 - 5 * ((0 : Nat) : Int) ≤ y ∧ y ≤ 20001 + 5 * ((0 : Nat) : Int)) := Lib.hid fun y hy => by
      have := HV1.out y hy
      omega
    clear hc hg HC3 HG3 HQ3
    go_wp2_with fail
    go_loopw [7] (fun i wr => ∃ (Q : List Int) (r d k' : Nat), r + d ≤ 3 ∧ k' + 3 * r ≤ k1 + 20 ∧ Hid (Q.length = P.length) ∧ i = .int .i64 r ∧ Hid (∀ y ∈ Q, -1001 - 5 * (d : Int) ≤ y ∧ y ≤ 20001 + 5 * (d : Int)) ∧ Hid (IFun wr w2.heap.size w3.heap.size (some ⟨gq, 0, none⟩) P.length (fun j => Q.getD j 0)) ∧ Hid (Cur w.heap.size A n c w.heap.size k' wr) ∧ Hid (w1.grownBy wr (some w.heap.size)) ∧ Hid (w3.heap.size ≤ wr.heap.size)) (fun i _ => (intOf i).toNat)
    case atStart => exact ⟨P, r0, 0, _, by omega, by omega, Lib.hid rfl, rfl, HV4, HQ4, HC4, HG4, HS4⟩
    case round =>
      clear HQ4 HC4 HG4 HS4 HV4
      obtain ⟨Q, r, d, k', hrd, hk3, HQL, rfl, HV, hQ, hC, hG, hS⟩ := hrel
      by_cases hlt : 0 < r
      · obtain ⟨r, rfl⟩ : ∃ j, r = j + 1 := ⟨r - 1, by omega⟩
        have hr0' : decide (((r + 1 : Nat) : Int) > 0) = true := decide_eq_true (by omega)
        go_wp2_with fail
        refine (pick_any _ _ _ _ _ _ P.length _ hC.out (by omega) (by omega) (by omega)).mono ?_
        rintro e w5 ⟨j, hj, rfl, hc, hg⟩
        have HC5 := Lib.hid hc
        have HG5 := Lib.hid (grown_trans hG.out hg)
        have HQ5 := Lib.hid (ifun_grown hQ.out hg hgl2 hS.out)
        have HS5 := Lib.hid (Nat.le_trans hS.out hg.size)
        clear hc hg hC hG hQ hS
        obtain ⟨y, hy⟩ : ∃ y, Q.getD j 0 = y := ⟨_, rfl⟩
        have hyb : -1001 - 5 * (d : Int) ≤ y ∧ y ≤ 20001 + 5 * (d : Int) := by
          rw [← hy, List.getD_eq_getElem?_getD, List.getElem?_eq_getElem (by rw [HQL.out]; exact hj)]
          exact HV.out _ (List.getElem_mem _)
        have HY := Lib.hid hy
        clear hy
        go_wp2_with fail
        obtain ⟨WD, hWD⟩ : ∃ WD, WD = w5.drew := ⟨_, rfl⟩
        have HCD : Hid (Cur w.heap.size A n c w.heap.size (k' + 1) WD) := by rw [hWD]; exact Lib.hid ⟨HC5.out.code, HC5.out.pos, HC5.out.seed, HC5.out.free1, HC5.out.free2, HC5.out.row, HC5.out.old, HC5.out.lt⟩
        have HGD : Hid (w1.grownBy WD (some w.heap.size)) := by rw [hWD]; exact Lib.hid ⟨HG5.out.os, HG5.out.tape, HG5.out.output, HG5.out.size, HG5.out.block⟩
        have HQD : Hid (IFun WD w2.heap.size w3.heap.size (some ⟨gq, 0, none⟩) P.length (fun j => Q.getD j 0)) := by rw [hWD]; exact HQ5
        have HSD : Hid (w3.heap.size ≤ WD.heap.size) := by rw [hWD]; exact HS5
        have hcq : (fun V : World => V.cell? ⟨gq, j, none⟩ = some (.int .i64 y)) WD := by
          obtain ⟨b, e, _, _, h, _⟩ := HQD.out j hj
          obtain rfl : gq = b := by injection e with e; injection e
          dsimp only at h
          rw [HY.out] at h
          exact h
        have hcq2 : (fun V : World => V.cell? ⟨gq, j, none⟩ = some (.int .i64 y)) w5.drew := by rw [← hWD]; exact hcq
        have hne9 : Nonempty {V : World // (fun V : World => V.cell? ⟨gq, j, none⟩ = some (.int .i64 y)) V} := ⟨⟨_, hcq⟩⟩
        have lc0 : ∀ X : InW (fun V : World => V.cell? ⟨gq, j, none⟩ = some (.int .i64 y)), X.at_.cell? ⟨gq, j, none⟩ = some (.int .i64 y) := fun X => X.ok
        refine region_readsI (w := w5) (I := fun V : World => V.cell? ⟨gq, j, none⟩ = some (.int .i64 y)) 11 5 [0, 1, 2, 3, 4, 5, 6] (by kernel_rfl) (by kernel_rfl) rfl hcq2 (fun d _ _ _ _ h => by cases d <;> exact h) ?_
        simp only [picks, List.getElem?_cons_succ, List.getElem?_cons_zero]
        repeat (go_big_quiet_step (fail))
        refine wpQuiet_nil ?_
        rw [← hWD]
        clear hWD hcq2 lc0 hne9 HC5 HG5 HQ5 HS5
        refine wpAnyN_one (i := 7) (by kernel_rfl) ?_
        refine wpOp_step rfl (fun K hK => ?_)
        rw [if_pos (by rfl)]
        go_simp
        refine hK _ _ ⟨⟨⟨_, cell_next ((Below.refl _ _).alloc (Nat.le_refl _) _) hcq⟩, rfl⟩, ?_⟩
        clear hK K
        refine wpAnyN_one (i := 8) (by kernel_rfl) ?_
        refine wpOp_step rfl (fun K hK => ?_)
        rw [if_pos (by rfl)]
        go_simp
        refine (among_at (fun x => -5 ≤ x ∧ x ≤ 3) _ _ _ _ _ _ _ 3 [-5, 3, 0] _ HCD.out rfl (by omega) (by decide) (by decide) (by intro x hx; simp only [List.mem_cons, List.not_mem_nil, or_false] at hx; omega)).mono ?_
        rintro e w6 ⟨x, hx, rfl, hc, hg⟩
        have HC6 := Lib.hid hc
        have HG6 := Lib.hid (grown_trans HGD.out hg)
        have HQ6 := Lib.hid (ifun_grown HQD.out hg hgl2 HSD.out)
        have HS6 := Lib.hid (Nat.le_trans HSD.out hg.size)
        clear hc hg HCD HGD HQD HSD hcq
        have hc6 : (fun V : World => V.cell? ⟨gq, j, none⟩ = some (.int .i64 y)) w6 := by
          obtain ⟨b, e, _, _, h, _⟩ := HQ6.out j hj
          obtain rfl : gq = b := by injection e with e; injection e
          dsimp only at h
          rw [HY.out] at h
          exact h
        have f6 : w6.frozen? ⟨gq, j, none⟩ = false := by
          obtain ⟨b, e, _, _, _, h⟩ := HQ6.out j hj
          obtain rfl : gq = b := by injection e with e; injection e
          exact h
        refine hK _ _ ⟨⟨⟨_, hc6⟩, rfl⟩, ?_⟩
        clear hK K
        refine wpAnyN_one (i := 9) (by kernel_rfl) ?_
        refine wpOp_step rfl (fun K hK => ?_)
        rw [if_pos (by rfl)]
        go_simp
        refine hK _ _ ⟨⟨⟨_, hc6⟩, rfl⟩, ?_⟩
        clear hK K
        refine wpAnyN_one (i := 10) (by kernel_rfl) ?_
        refine wpOp_step rfl (fun K hK => ?_)
        rw [if_pos (by rfl)]
        go_simp
        refine hK _ _ ⟨⟨⟨_, hc6⟩, rfl⟩, ?_⟩
        clear hK K
        refine wpAnyN_end rfl (by kernel_rfl) rfl ?_
        simp only [List.drop_succ_cons, List.drop_zero]
        have hyx : wrap64 (y + x) = y + x := by unfold wrap64; omega
        have o1 : w6.cell? ⟨gq, j, none⟩ = some (.int .i64 y) := hc6
        have HV7 := Lib.hid (val_wider (k := j) HV.out (show -1001 - 5 * ((d + 1 : Nat) : Int) ≤ y + x ∧ y + x ≤ 20001 + 5 * ((d + 1 : Nat) : Int) by omega))
        have HL7 : Hid ((Q.set j (y + x)).length = P.length) := Lib.hid (List.length_set.trans HQL.out)
        have HQ7 : Hid (IFun (w6.setCell ⟨gq, j, none⟩ (.int .i64 (y + x))) w2.heap.size w3.heap.size (some ⟨gq, 0, none⟩) P.length (fun i => (Q.set j (y + x)).getD i 0)) := Lib.hid ((HQ6.out.set (y + x)).congr fun i hi => by
          by_cases e : i = j
          · subst e; rw [if_pos rfl, getD_set_eq (by rw [HQL.out]; exact hi)]
          · rw [if_neg e, getD_set_ne (Ne.symm e)])
        have HC7 := Lib.hid (HC6.out.set (gb := gq) (by omega) (by omega) j (.int .i64 (y + x)))
        have HG7 := Lib.hid (grown_put (gb := gq) HG6.out (by omega) j (.int .i64 (y + x)))
        have HS7 : Hid (w3.heap.size ≤ (w6.setCell ⟨gq, j, none⟩ (.int .i64 (y + x))).heap.size) := by unfold Hid; simpa [World.setCell] using HS6.out
        clear hc6 HC6 HG6 HQ6 HS6
        go_wp2_with fail
        go_roundw
        case rel => exact ⟨Q.set j (y + x), r, d + 1, _, by omega, by omega, HL7, by go_num, HV7, HQ7, HC7, HG7, HS7⟩
        case measure => simp [intOf]
      · obtain rfl : r = 0 := by omega
        have hQ9 := hQ.out
        rw [← HQL.out] at hQ9
        have HD : Hid (RowE w Q gq wr) := Lib.hid ⟨by have := HQL.out; omega, hQ9.wide (by omega) hS.out⟩
        clear hQ9
        go_wp2_with fail
        go_ret2
        exact ⟨P, gp, cp, Q, gq, cq, by rw [HQL.out]; rfl, row_later h31 HP1.out hG.out hz (Nat.le_of_lt hz), HD.out, below_readerE (grown_trans HG1.out hG.out)⟩
  · go_wp2_with fail
    refine (track_any _ _ _ _ _ _ _ HC2.out (by omega)).mono ?_
    rintro e w3 ⟨Q, gq, cq, k2, q2, q31, hk2, hgq, hgq2, rfl, hv, hi, hc, hg⟩
    have HG3 := Lib.hid (grown_trans HG2.out hg)
    have HD : Hid (RowE w Q gq w3) := Lib.hid ⟨by omega, hi.wide (Nat.le_trans (Nat.le_of_lt hgl1) HG2.out.size) (Nat.le_refl _)⟩
    clear hv hi hc hg
    go_wp2_with fail
    go_ret2
    exact ⟨P, gp, cp, Q, gq, cq, rfl, row_later h31 HP1.out HG3.out hz (Nat.le_of_lt hz), HD.out, below_readerE (grown_trans HG1.out HG3.out)⟩
end Go.Proofs.Ytjekmmekkfmplaa
