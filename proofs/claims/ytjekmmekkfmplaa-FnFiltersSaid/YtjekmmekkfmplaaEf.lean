/-
  Median and shoal filters, the law's model: contracts of spec.l1Own, l12Median, l12Filter, MedianFilter, ShoalFilter over this translation. Conditions: stated at each theorem.
-/
import Derived.Test.YtjekmmekkfmplaaEc
import Derived.Test.YtjekmmekkfmplaaRed
import Derived.Test.YtjekmmekkfmplaaPv
namespace Go.Proofs.Ytjekmmekkfmplaa
open Go.RowKit
set_option linter.unusedVariables false

/-! ### A copy in a row of its own -/
theorem ifun_cells {w : World} {lo hi g o n : Nat} {L : List Int} (h : IFun w lo hi (some ⟨g, o, none⟩) n (fun j => L.getD j 0)) (hn : L.length = n) (hp : 0 < n) : o = 0 ∧ ∀ (j : Nat) (u : Value), (ivs L)[j]? = some u → w.cell? ((⟨g, 0, none⟩ : Addr).add j) = some u := by
  obtain ⟨g0, e0, _⟩ := h 0 hp
  refine ⟨by injection e0 with h; injection h, fun j u hu => ?_⟩
  have hj : j < L.length := by rw [← ivs_len]; exact (List.getElem?_eq_some_iff.1 hu).1
  obtain ⟨g', e, _, _, hc, _⟩ := h j (by omega)
  obtain rfl : g = g' := by injection e with h; injection h
  rw [add_none, Nat.zero_add, hc]
  obtain ⟨x, hx⟩ : ∃ x, L[j]? = some x := ⟨_, List.getElem?_eq_getElem hj⟩
  have h9 := ivs_atJ hx
  rw [h9] at hu
  dsimp only
  rw [List.getD_eq_getElem?_getD, hx]
  exact hu
set_option maxHeartbeats 1600000 in
theorem own_spec (g C lo hi : Nat) (T : List Int) (w : World) (ht : IFun w lo hi (some ⟨g, 0, none⟩) T.length (fun j => T.getD j 0)) (hh : hi ≤ w.heap.size) (hp : 0 < T.length) (hm : T.length ≤ 1048576) :
    Calls Try.prog 69 #[.slice (some ⟨g, 0, none⟩) T.length C] w fun e w' => ∃ g' C', e = .returned (.slice (some ⟨g', 0, none⟩) T.length C') ∧ Col w 3 1 (.slice (some ⟨g', 0, none⟩) T.length C') T.length (ivs T) w' := by
  obtain ⟨i0, hi, hz0, hz1, hz2⟩ := info_parts info3
  have HJ := Lib.hid (And.intro hi (And.intro hz0 (And.intro hz1 hz2)))
  clear hi hz0 hz1 hz2
  have HC0 := Lib.hid (col_start 3 1 (Below.refl w.heap.size w))
  have HQ := Lib.hid (ifun_cells ((ht.on ((Below.refl w.heap.size w).alloc (Nat.le_refl _) (.cells #[] 3)) hh)) rfl hp).2
  have HL : Hid ((ivs T).length = T.length * 1) := Lib.hid (by rw [ivs_len]; omega)
  have H1 : Hid (∀ u ∈ ivs T, u.oneCell' = true) := Lib.hid (by
    intro u hu
    simp only [ivs, List.mem_map] at hu
    obtain ⟨y, _, rfl⟩ := hu
    rfl)
  clear ht
  go_enter Try.func69, Try.ntmps69
  go_wp2_with (at_builtin; go_loud (refine wpList_append_own_at _ rfl _ _ 24 rfl w.heap.size 3 i0 (.int .i64 0) 1 8 Try.underlying24 HJ.out.1 HJ.out.2.1 HJ.out.2.2.1 HJ.out.2.2.2 rfl (by decide) _ _ _ rfl HC0.out.1 ⟨g, 0, none⟩ T.length C (ivs T) rfl HL.out HQ.out H1.out (by unfold maxLen; omega) (by omega) (by simp) ?_; intro v' w5 hown' hgrow _ hfr; rw [List.nil_append, Nat.zero_add] at hown'; have HN := Lib.hid (HC0.out.grow hown' hgrow); clear hown' hgrow hfr))
  obtain ⟨n0, hn0⟩ : ∃ n0, T.length = n0 + 1 := ⟨T.length - 1, by omega⟩
  rw [hn0] at HN ⊢
  obtain ⟨g5, C5, rfl, _, _⟩ := own_capsJ HN.out.1
  go_ret
  exact ⟨_, _, rfl, HN.out⟩
/-! ### Medians -/
theorem median_spec (a b c v : Int) (h : mdI a b c = v) (w : World) :
    Calls Try.prog 85 #[.int .i64 a, .int .i64 b, .int .i64 c] w fun e w' => e = .returned (.int .i64 v) ∧ w = w' := by
  have H : Hid (max (min a b) (min (max a b) c) = v) := Lib.hid h
  clear h
  go_enter Try.func85, Try.ntmps85
  go_wp2_with fail
  refine (least_any _ _ _).mono ?_
  rintro e w' ⟨rfl, rfl⟩
  go_wp2_with fail
  refine (most_any _ _ _).mono ?_
  rintro e w' ⟨rfl, rfl⟩
  go_wp2_with fail
  refine (least_any _ _ _).mono ?_
  rintro e w' ⟨rfl, rfl⟩
  go_wp2_with fail
  refine (most_any _ _ _).mono ?_
  rintro e w' ⟨rfl, rfl⟩
  go_wp2_with fail
  go_ret
  exact ⟨ret_int H.out, rfl⟩
def OwnP (L : List Int) (w : World) (e : Ending) (w' : World) : Prop :=
  ∃ g C, e = .returned (.slice (some ⟨g, 0, none⟩) L.length C) ∧ IFun w' w.heap.size w'.heap.size (some ⟨g, 0, none⟩) L.length (fun j => L.getD j 0) ∧ Below w.heap.size w w'
theorem mf_put {w : World} {lo hi g n k : Nat} {T : List Int} (h : IFun w lo hi (some ⟨g, 0, none⟩) n (fun j => (mfK T k).getD j 0)) (hk : k + 1 < T.length) : IFun (w.setCell ⟨g, k + 1, none⟩ (.int .i64 (mdT T (k + 1)))) lo hi (some ⟨g, 0, none⟩) n (fun j => (mfK T (k + 1)).getD j 0) :=
  (h.set (mdT T (k + 1))).congr fun j hj => by
    rw [mfK]
    by_cases e : j = k + 1
    · subst e
      rw [if_pos rfl, getD_set_eq (by rw [mfK_len]; exact hk)]
    · rw [if_neg e, getD_set_ne (Ne.symm e)]
set_option maxRecDepth 20000 in
set_option maxHeartbeats 6400000 in
theorem filter_spec (g C lo hi : Nat) (T : List Int) (w : World) (ht : IFun w lo hi (some ⟨g, 0, none⟩) T.length (fun j => T.getD j 0)) (hh : hi ≤ w.heap.size) (hT : Trk T) :
    Calls Try.prog 70 #[.slice (some ⟨g, 0, none⟩) T.length C] w (OwnP (mfL T) w) := by
  have HI := Lib.hid ht
  have h3 := hT.lo
  have h30 := hT.hi
  have hlen := mfL_len T
  clear ht
  go_enter Try.func70, Try.ntmps70
  go_wp2_with fail
  refine (own_spec _ _ _ _ _ _ HI.out hh (by omega) (by omega)).mono ?_
  rintro e w1 ⟨q, Cq, rfl, hc⟩
  have HB1 := Lib.hid hc.2
  have hqlo := (hc.1.lt q rfl).1
  have hqhi := (hc.1.lt q rfl).2
  have HO1 : Hid (IFun w1 w.heap.size w1.heap.size (some ⟨q, 0, none⟩) T.length (fun j => (mfK T 0).getD j 0)) := Lib.hid (ifun_of_own hc.1)
  clear hc
  go_wp2_with fail
  go_loopw [4] (fun i wr => ∃ (k : Nat), 1 ≤ k ∧ k + 1 ≤ T.length ∧ i = .int .i64 k ∧ Hid (IFun wr w.heap.size w1.heap.size (some ⟨q, 0, none⟩) T.length (fun j => (mfK T (k - 1)).getD j 0)) ∧ Hid (Below w.heap.size w wr) ∧ Hid (wr.heap.size = w1.heap.size)) (fun i _ => T.length - (intOf i).toNat)
  case atStart => exact ⟨1, Nat.le_refl _, by omega, rfl, HO1, HB1, Lib.hid rfl⟩
  case round =>
    obtain ⟨k, hk1, hk, rfl, hO, hB, hZ⟩ := hrel
    by_cases hlt : k + 1 < T.length
    · rcases k with _ | j
      · omega
      rw [Nat.add_sub_cancel] at hO
      obtain ⟨b, e', hb1, hb2, c0, _⟩ := (HI.out.on hB.out hh) j (by omega)
      obtain rfl : g = b := by injection e' with h; injection h
      clear e'
      obtain ⟨b', e', _, _, c1, _⟩ := (HI.out.on hB.out hh) (j + 1) (by omega)
      obtain rfl : g = b' := by injection e' with h; injection h
      clear e'
      obtain ⟨b', e', _, _, c2, _⟩ := (HI.out.on hB.out hh) (j + 1 + 1) hlt
      obtain rfl : g = b' := by injection e' with h; injection h
      clear e'
      obtain ⟨q', e', _, _, o1, f1⟩ := hO.out (j + 1) (by omega)
      obtain rfl : q = q' := by injection e' with h; injection h
      clear e'
      obtain ⟨x, hx⟩ : ∃ x, T.getD j 0 = x := ⟨_, rfl⟩
      obtain ⟨y, hy⟩ : ∃ y, T.getD (j + 1) 0 = y := ⟨_, rfl⟩
      obtain ⟨z, hz⟩ : ∃ z, T.getD (j + 1 + 1) 0 = z := ⟨_, rfl⟩
      obtain ⟨v, hv⟩ : ∃ v, mdI x y z = v := ⟨_, rfl⟩
      dsimp only at c0 c1 c2 o1
      rw [hx] at c0
      rw [hy] at c1
      rw [hz] at c2
      obtain ⟨u0, hu0⟩ : ∃ u0, (mfK T j).getD (j + 1) 0 = u0 := ⟨_, rfl⟩
      rw [hu0] at o1
      have HV := Lib.hid hv
      have HMD : Hid (mdT T (j + 1) = v) := Lib.hid (by unfold mdT; rw [Nat.add_sub_cancel, hx, hy, hz, hv])
      clear hx hy hz hv hu0
      obtain ⟨W0, rfl⟩ : ∃ W : World, W = wr := ⟨_, rfl⟩
      go_wp2_with fail
      have hne : g ≠ q := by omega
      have hI : (fun V : World => V.cell? ⟨g, j, none⟩ = some (.int .i64 x) ∧ V.cell? ⟨g, j + 1, none⟩ = some (.int .i64 y) ∧ V.cell? ⟨g, j + 1 + 1, none⟩ = some (.int .i64 z)) W0.drew := ⟨c0, c1, c2⟩
      have hne9 : Nonempty {V : World // (fun V : World => V.cell? ⟨g, j, none⟩ = some (.int .i64 x) ∧ V.cell? ⟨g, j + 1, none⟩ = some (.int .i64 y) ∧ V.cell? ⟨g, j + 1 + 1, none⟩ = some (.int .i64 z)) V} := ⟨⟨_, hI⟩⟩
      have lc0 : ∀ X : InW (fun V : World => V.cell? ⟨g, j, none⟩ = some (.int .i64 x) ∧ V.cell? ⟨g, j + 1, none⟩ = some (.int .i64 y) ∧ V.cell? ⟨g, j + 1 + 1, none⟩ = some (.int .i64 z)), X.at_.cell? ⟨g, j, none⟩ = some (.int .i64 x) := fun X => X.ok.1
      have lc1 : ∀ X : InW (fun V : World => V.cell? ⟨g, j, none⟩ = some (.int .i64 x) ∧ V.cell? ⟨g, j + 1, none⟩ = some (.int .i64 y) ∧ V.cell? ⟨g, j + 1 + 1, none⟩ = some (.int .i64 z)), X.at_.cell? ⟨g, j + 1, none⟩ = some (.int .i64 y) := fun X => X.ok.2.1
      have lc2 : ∀ X : InW (fun V : World => V.cell? ⟨g, j, none⟩ = some (.int .i64 x) ∧ V.cell? ⟨g, j + 1, none⟩ = some (.int .i64 y) ∧ V.cell? ⟨g, j + 1 + 1, none⟩ = some (.int .i64 z)), X.at_.cell? ⟨g, j + 1 + 1, none⟩ = some (.int .i64 z) := fun X => X.ok.2.2
      refine region_readsI (w := W0) (I := fun V : World => V.cell? ⟨g, j, none⟩ = some (.int .i64 x) ∧ V.cell? ⟨g, j + 1, none⟩ = some (.int .i64 y) ∧ V.cell? ⟨g, j + 1 + 1, none⟩ = some (.int .i64 z)) 18 3 [0, 1, 2, 3, 4, 5, 6, 7, 8, 9, 10, 11, 12, 13, 14, 15] (by kernel_rfl) (by kernel_rfl) rfl hI (fun d _ _ _ _ h => by cases d <;> exact h) ?_
      clear hI
      simp only [picks, List.getElem?_cons_succ, List.getElem?_cons_zero]
      repeat (go_big_quiet_step (fail))
      refine wpQuiet_nil ?_
      obtain ⟨WD, hWD⟩ : ∃ WD, WD = W0.drew := ⟨_, rfl⟩
      rw [← hWD]
      have k0 : WD.cell? ⟨g, j, none⟩ = some (.int .i64 x) := by rw [hWD]; exact c0
      have k1 : WD.cell? ⟨g, j + 1, none⟩ = some (.int .i64 y) := by rw [hWD]; exact c1
      have k2 : WD.cell? ⟨g, j + 1 + 1, none⟩ = some (.int .i64 z) := by rw [hWD]; exact c2
      have p1 : WD.cell? ⟨q, j + 1, none⟩ = some (.int .i64 u0) := by rw [hWD]; exact o1
      have z1 : WD.frozen? ⟨q, j + 1, none⟩ = false := by rw [hWD]; exact f1
      have HO2 : Hid (IFun WD w.heap.size w1.heap.size (some ⟨q, 0, none⟩) T.length (fun p => (mfK T j).getD p 0)) := by rw [hWD]; exact Lib.hid (hO.out.on (Below.refl W0.heap.size W0).drew (by rw [hZ.out]; exact Nat.le_refl _))
      have HB2 : Hid (Below w.heap.size w WD) := by rw [hWD]; exact Lib.hid hB.out.drew
      have HZ2 : Hid (WD.heap.size = w1.heap.size) := by rw [hWD]; exact hZ
      clear hWD hO hB hZ c0 c1 c2 o1 f1 lc0 lc1 lc2 hne9
      refine wpAnyN_one (i := 16) (by kernel_rfl) ?_
      refine wpOp_step rfl (fun K hK => ?_)
      rw [if_pos (by rfl)]
      go_simp
      refine (median_spec _ _ _ _ HV.out _).mono ?_
      rintro e w' ⟨rfl, rfl⟩
      refine hK _ _ ⟨⟨⟨_, k0, k1, k2⟩, rfl⟩, ?_⟩
      clear hK K
      refine wpAnyN_one (i := 17) (by kernel_rfl) ?_
      refine wpOp_step rfl (fun K hK => ?_)
      rw [if_pos (by rfl)]
      go_simp
      rw [if_pos (show 0 ≤ (j : Int) + 1 ∧ (j : Int) + 1 < (T.length : Int) by omega)]
      go_simp
      refine hK _ _ ⟨⟨⟨_, k0, k1, k2⟩, rfl⟩, ?_⟩
      clear hK K
      have HO4 : Hid (IFun (WD.setCell ⟨q, j + 1, none⟩ (.int .i64 v)) w.heap.size w1.heap.size (some ⟨q, 0, none⟩) T.length (fun p => (mfK T (j + 1)).getD p 0)) := by rw [← HMD.out]; exact Lib.hid (mf_put HO2.out (by omega))
      have HB4 := Lib.hid (HB2.out.setCell (p := ⟨q, j + 1, none⟩) hqlo (.int .i64 v))
      have HZ4 : Hid ((WD.setCell ⟨q, j + 1, none⟩ (.int .i64 v)).heap.size = w1.heap.size) := by unfold Hid; simpa [World.setCell] using HZ2.out
      clear HO2 HB2 HZ2
      refine wpAnyN_end rfl (by kernel_rfl) rfl ?_
      simp only [List.drop_succ_cons, List.drop_zero]
      go_wp2_with fail
      go_roundw
      case rel => exact ⟨j + 1 + 1, by omega, by omega, by go_num, HO4, HB4, HZ4⟩
      case measure => simp [intOf]; omega
    · obtain rfl : k = T.length - 1 := by omega
      have HF : Hid (IFun wr w.heap.size wr.heap.size (some ⟨q, 0, none⟩) (mfL T).length (fun p => (mfL T).getD p 0)) := by
        have h := hO.out
        rw [← hZ.out, show T.length - 1 - 1 = T.length - 2 by omega] at h
        rw [hlen]
        exact Lib.hid h
      clear hO hZ
      go_wp2_with fail
      go_ret
      exact ⟨q, Cq, by rw [hlen]; rfl, HF.out, hB.out⟩
def mfR (T : List Int) : List Int := if trB T then mfL T else []
theorem mf_no {T : List Int} (h : trB T = false) : mfR T = [] ∧ trB T = false := ⟨by unfold mfR; rw [h]; rfl, h⟩
theorem mf_yes {T : List Int} (h : trB T = true) : mfR T = mfL T ∧ trB T = true := ⟨by unfold mfR; rw [h, if_pos rfl], h⟩
theorem ie_own {L M : List Int} {K : Bool} {w w' : World} {g C : Nat} (h : L = M ∧ K = true) (hf : IFun w' w.heap.size w'.heap.size (some ⟨g, 0, none⟩) M.length (fun j => M.getD j 0)) (hb : Below w.heap.size w w') : IntsPost L (fun j => L.getD j 0) K w (.returned (.tuple #[.slice (some ⟨g, 0, none⟩) M.length C, .bool true])) w' := by
  obtain ⟨rfl, rfl⟩ := h
  exact ⟨_, C, rfl, hf, hb⟩
set_option maxHeartbeats 1600000 in
theorem mfilter_spec (A : Option Addr) (C lo hi : Nat) (T : List Int) (w : World) (ht : IFun w lo hi A T.length (fun j => T.getD j 0)) (hh : hi ≤ w.heap.size) (hm : T.length ≤ 1048576) :
    Calls Try.prog 34 #[.slice A T.length C] w (IntsPost (mfR T) (fun j => (mfR T).getD j 0) (trB T) w) := by
  rcases h1 : trB T with _ | _
  · have HI := Lib.hid ht
    have H1 := Lib.hid h1
    have HP := Lib.hid (mf_no h1)
    have HC := Lib.hid (col_start 3 1 (Below.refl w.heap.size w))
    clear h1 ht
    go_enter Try.func34, Try.ntmps34
    go_wp2_with fail
    refine (goodE_spec _ _ _ _ _ _ H1.out _ HI.out hm).mono ?_
    rintro e w' ⟨rfl, rfl⟩
    go_wp2_with fail
    go_ret2
    exact ie_no ⟨HP.out.1, by first | rfl | exact HP.out.2⟩ HC.out
  have H1 := Lib.hid h1
  have HP := Lib.hid (mf_yes h1)
  have HT := Lib.hid (trk_of h1)
  have h3 := (trk_of h1).lo
  obtain ⟨g, rfl, _⟩ := ht 0 (by omega)
  have HI := Lib.hid ht
  clear h1 ht
  go_enter Try.func34, Try.ntmps34
  go_wp2_with fail
  refine (goodE_spec _ _ _ _ _ _ H1.out _ HI.out hm).mono ?_
  rintro e w' ⟨rfl, rfl⟩
  go_wp2_with fail
  refine (filter_spec _ _ _ _ _ _ HI.out hh HT.out).mono ?_
  rintro e w' ⟨g', C', rfl, hf, hb⟩
  have HF := Lib.hid hf
  have HB := Lib.hid hb
  clear hf hb
  go_wp2_with fail
  go_ret2
  exact ie_own ⟨HP.out.1, by first | rfl | exact HP.out.2⟩ HF.out HB.out
/-! ### Shoal filters -/
def sfK (T : List Int) (r : Int) : Bool := trB T && inB r 0 10
def sfR (T : List Int) (r : Int) : List Int := if sfK T r then shL T r.toNat T.length else []
theorem sf_no {T : List Int} {r : Int} (h : sfK T r = false) : sfR T r = [] ∧ sfK T r = false := ⟨by unfold sfR; rw [h]; rfl, h⟩
theorem sf_yes {T : List Int} {r : Nat} (h : sfK T r = true) : sfR T r = shL T r T.length ∧ sfK T r = true := ⟨by unfold sfR; rw [h, if_pos rfl, Int.toNat_natCast], h⟩
theorem sf_1 {T : List Int} {r : Int} (h : trB T = false) : sfK T r = false := by unfold sfK; rw [h]; rfl
theorem sf_2 {T : List Int} {r : Int} (h : inB r 0 10 = false) : sfK T r = false := by unfold sfK; rw [h, Bool.and_false]
theorem sf_3 {T : List Int} {r : Int} (h : trB T = true) (h2 : inB r 0 10 = true) : sfK T r = true := by unfold sfK; rw [h, h2]; rfl
theorem least_vE (a b v : Int) (h : min a b = v) (w : World) : Calls Try.prog 77 #[.int .i64 a, .int .i64 b] w fun e w' => e = .returned (.int .i64 v) ∧ w = w' := by
  subst h
  exact least_any a b w
theorem most_vE (a b v : Int) (h : max a b = v) (w : World) : Calls Try.prog 76 #[.int .i64 a, .int .i64 b] w fun e w' => e = .returned (.int .i64 v) ∧ w = w' := by
  subst h
  exact most_any a b w
set_option maxRecDepth 20000 in
set_option maxHeartbeats 6400000 in
theorem shoal_spec (A : Option Addr) (C lo hi : Nat) (T : List Int) (r : Int) (w : World) (ht : IFun w lo hi A T.length (fun j => T.getD j 0)) (hh : hi ≤ w.heap.size) (hm : T.length ≤ 1048576) :
    Calls Try.prog 37 #[.slice A T.length C, .int .i64 r] w (IntsPost (sfR T r) (fun j => (sfR T r).getD j 0) (sfK T r) w) := by
  obtain ⟨i0, hi, hz0, hz1, hz2⟩ := info_parts info3
  have HJ := Lib.hid (And.intro hi (And.intro hz0 (And.intro hz1 hz2)))
  clear hi hz0 hz1 hz2
  have HI := Lib.hid ht
  clear ht
  obtain ⟨W0, hW0⟩ : ∃ W0, W0 = w.alloc (.cells #[] 3) := ⟨_, rfl⟩
  have HC0 : Hid (Col w 3 1 (.slice (some ⟨w.heap.size, 0, none⟩) 0 0) 0 (ivs []) W0) := by rw [hW0]; exact Lib.hid (col_start 3 1 (Below.refl _ _))
  have HE0 := Lib.hid hW0
  clear hW0
  rcases h1 : trB T with _ | _
  · have H1 := Lib.hid h1
    have HP := Lib.hid (sf_no (sf_1 (r := r) h1))
    clear h1
    go_enter Try.func37, Try.ntmps37
    go_wp2_with fail
    rw [← HE0.out]
    refine (goodE_spec _ _ _ _ _ _ H1.out _ (HI.out.on HC0.out.2 hh) hm).mono ?_
    rintro e w' ⟨rfl, rfl⟩
    go_wp2_with fail
    go_ret2
    exact ie_no HP.out HC0.out
  rcases h2 : inB r 0 10 with _ | _
  · have H1 := Lib.hid h1
    have H2 := Lib.hid h2
    have HP := Lib.hid (sf_no (sf_2 (T := T) h2))
    clear h1 h2
    go_enter Try.func37, Try.ntmps37
    go_wp2_with fail
    rw [← HE0.out]
    refine (goodE_spec _ _ _ _ _ _ H1.out _ (HI.out.on HC0.out.2 hh) hm).mono ?_
    rintro e w' ⟨rfl, rfl⟩
    go_wp2_with fail
    refine (l1In_v _ _ _ _ H2.out _).mono ?_
    rintro e w' ⟨rfl, rfl⟩
    go_wp2_with fail
    go_ret2
    exact ie_no HP.out HC0.out
  have hr := inB_yes h2
  obtain ⟨r, rfl⟩ : ∃ q : Nat, r = q := ⟨r.toNat, by omega⟩
  have hr10 : r ≤ 10 := by omega
  have HP := Lib.hid (sf_yes (sf_3 h1 h2))
  have h3 := (trk_of h1).lo
  have h30 := (trk_of h1).hi
  have H1 := Lib.hid h1
  have H2 := Lib.hid h2
  clear h1 h2 hr
  go_enter Try.func37, Try.ntmps37
  go_wp2_with fail
  rw [← HE0.out]
  refine (goodE_spec _ _ _ _ _ _ H1.out _ (HI.out.on HC0.out.2 hh) hm).mono ?_
  rintro e w' ⟨rfl, rfl⟩
  go_wp2_with fail
  refine (l1In_v _ _ _ _ H2.out _).mono ?_
  rintro e w' ⟨rfl, rfl⟩
  go_wp2_with fail
  have HC1 : Hid (Col w 3 1 (.slice (some ⟨w.heap.size, 0, none⟩) 0 0) 0 (ivs (shL T r 0)) W0) := HC0
  go_loopw [6, 7] (fun s i wr => ∃ (k g C : Nat), k ≤ T.length ∧ i = .int .i64 k ∧ s = .slice (some ⟨g, 0, none⟩) k C ∧ Hid (Col w 3 1 (.slice (some ⟨g, 0, none⟩) k C) k (ivs (shL T r k)) wr)) (fun _ i _ => T.length - (intOf i).toNat)
  case atStart => exact ⟨0, _, 0, Nat.zero_le _, rfl, rfl, HC1⟩
  case round =>
    obtain ⟨k, g, C, hk, rfl, rfl, hC⟩ := hrel
    by_cases hlt : k < T.length
    · obtain ⟨b, rfl, _, _, c0, _⟩ := (HI.out.on hC.out.2 hh) k hlt
      obtain ⟨x, hx⟩ : ∃ x, T.getD k 0 = x := ⟨_, rfl⟩
      dsimp only at c0
      rw [hx] at c0
      obtain ⟨l0, hl0⟩ : ∃ l0, k - r = l0 := ⟨_, rfl⟩
      obtain ⟨h0, hh0⟩ : ∃ h0, min (T.length - 1) (k + r) = h0 := ⟨_, rfl⟩
      have HMO : Hid (max 0 ((k : Int) - (r : Int)) = (l0 : Int)) := by unfold Hid; omega
      have HLE : Hid (min ((T.length : Int) - 1) ((k : Int) + (r : Int)) = (h0 : Int)) := by unfold Hid; omega
      have HSH : Hid (wnI T x l0 (h0 + 1 - l0) = shI T r k) := by unfold Hid shI; rw [hx, hl0, hh0]
      have hlh : l0 ≤ h0 ∧ h0 < T.length := by omega
      clear hx hl0 hh0
      go_wp2_with fail
      refine (most_vE _ _ _ HMO.out _).mono ?_
      rintro e w' ⟨rfl, hw⟩
      have HW9 := Lib.hid hw
      clear hw
      go_wp2_with fail
      go_loopw [8, 9] (fun q p wv => ∃ (d : Nat) (s : Int), l0 + d ≤ h0 + 1 ∧ p = .int .i64 (l0 + d : Nat) ∧ q = .int .i64 s ∧ Hid (s = wnI T x l0 d) ∧ Hid (wr = wv)) (fun _ p _ => h0 + 1 - (intOf p).toNat)
      case atStart => exact ⟨0, _, by omega, rfl, rfl, Lib.hid rfl, HW9⟩
      case round =>
        obtain ⟨d, s, hd, rfl, rfl, hS, hW⟩ := hrel
        obtain rfl := hW.out
        by_cases hle : l0 + d ≤ h0
        · obtain ⟨b', e', _, _, c1, _⟩ := (HI.out.on hC.out.2 hh) (l0 + d) (by omega)
          obtain rfl : b = b' := by injection e' with h; injection h
          clear e'
          obtain ⟨y, hy⟩ : ∃ y, T.getD (l0 + d) 0 = y := ⟨_, rfl⟩
          dsimp only at c1
          rw [hy] at c1
          obtain ⟨v, hv⟩ : ∃ v, min s y = v := ⟨_, rfl⟩
          have HV := Lib.hid hv
          have HS2 : Hid (v = wnI T x l0 (d + 1)) := by unfold Hid; rw [wnI, ← hS.out, hy, hv]
          clear hy hv
          go_wp2_with fail
          refine (least_vE _ _ _ HLE.out _).mono ?_
          rintro e w' ⟨rfl, hw⟩
          obtain rfl := hw
          go_wp2_with fail
          refine (least_vE _ _ _ HV.out _).mono ?_
          rintro e w' ⟨rfl, hw⟩
          have HW9 := Lib.hid hw
          obtain rfl := hw
          go_wp2_with fail
          go_roundw
          case rel => exact ⟨d + 1, v, by omega, by go_num, rfl, HS2, hW⟩
          case measure => simp [intOf]; omega
        · have HS9 : Hid (s = shI T r k) := by
            have e : d = h0 + 1 - l0 := by omega
            rw [← HSH.out, ← e]
            exact hS
          go_wp2_with fail
          refine (least_vE _ _ _ HLE.out _).mono ?_
          rintro e w' ⟨rfl, hw⟩
          obtain rfl := hw
          go_wp2_with (at_builtin; go_loud (refine wpList_append_own_at _ rfl _ _ 24 rfl w.heap.size 3 i0 (.int .i64 0) 1 8 Try.underlying24 HJ.out.1 HJ.out.2.1 HJ.out.2.2.1 HJ.out.2.2.2 rfl (by decide) _ _ _ rfl (hC.out.1.alloc _) ⟨wr.heap.size, 0, none⟩ 1 1 [.int .i64 s] rfl rfl (one_newJ _ _ _) (by simp [Value.oneCell']) (by unfold maxLen; omega) (by omega) (by have := hC.out.2.size; simp; omega) ?_; intro v' w5 hown' hgrow _ hfr; rw [← ivs_snoc] at hown'; have HN := Lib.hid (hC.out.step hown' hgrow); clear hown' hgrow hfr))
          obtain ⟨g5, C5, rfl, _, _⟩ := own_capsJ HN.out.1
          have HC9 : Hid (Col w 3 1 (.slice (some ⟨g5, 0, none⟩) (k + 1) C5) (k + 1) (ivs (shL T r (k + 1))) w5) := by unfold Hid; rw [shL, ← HS9.out]; exact HN.out
          clear HN c0
          go_roundw
          case rel => exact ⟨k + 1, g5, C5, by omega, by go_num, rfl, HC9⟩
          case measure => simp [intOf]; omega
    · obtain rfl : k = T.length := by omega
      go_wp2_with fail
      go_ret2
      exact ie_yes HP.out hC.out
end Go.Proofs.Ytjekmmekkfmplaa
