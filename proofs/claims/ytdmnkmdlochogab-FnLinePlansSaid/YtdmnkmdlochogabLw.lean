/-
  Survey lines: contracts of impl.isSwath, isLine, AreLines, spec.l2Grid, l9Good, AreLines over this translation. Conditions: stated at each theorem.
-/
import Derived.Test.YtdmnkmdlochogabLo
import Derived.Test.YtdmnkmdlochogabMw
import Derived.Test.YtdmnkmdlochogabPerm
namespace Go.Proofs.Ytdmnkmdlochogab
open Go.RowKit
set_option linter.unusedVariables false

theorem swath_impl (n : Int) (v : Bool) (h : inB n 1 300 = v) (w : World) :
    Calls Try.prog 86 #[.int .i64 n] w fun e w' => e = .returned (.bool v) ∧ w = w' := by
  have H := Lib.hid h
  clear h
  go_enter Try.func86, Try.ntmps86
  go_wp2_with fail
  refine (within_v _ _ _ _ H.out _).mono ?_
  rintro e w' ⟨rfl, rfl⟩
  go_wp2_with fail
  go_ret
  exact ⟨rfl, rfl⟩
theorem gridN_spec (n : Int) (v : Bool) (h : inB n 0 1000 = v) (w : World) :
    Calls Try.prog 160 #[.int .i64 n] w fun e w' => e = .returned (.bool v) ∧ w = w' := by
  have H := Lib.hid h
  clear h
  go_enter Try.func160, Try.ntmps160
  go_wp2_with fail
  refine (l1In_v _ _ _ _ H.out _).mono ?_
  rintro e w' ⟨rfl, rfl⟩
  go_wp2_with fail
  go_ret
  exact ⟨rfl, rfl⟩
theorem lnB_is (v : LN) (a b d : Bool) (h1 : inB v.id 1 99 = a) (h2 : (inB v.y 0 1000 && inB v.fr 0 1000 && inB v.to 0 1000) = b) (h4 : inB v.sw 1 300 = d) : lnB v = (a && b && decide (v.fr < v.to) && d) := by
  subst h1; subst h2; subst h4
  unfold lnB
  simp only [Bool.and_assoc]
set_option maxHeartbeats 800000 in
theorem line_impl (v : LN) (r : Bool) (h : lnB v = r) (w : World) :
    Calls Try.prog 91 #[.agg #[.int .i64 v.id, .int .i64 v.y, .int .i64 v.fr, .int .i64 v.to, .int .i64 v.sw]] w fun e w' => e = .returned (.bool r) ∧ Below w.heap.size w w' := by
  subst h
  have HX : Hid (((w.alloc (.cells #[.int .i64 v.id, .int .i64 v.y, .int .i64 v.fr, .int .i64 v.to, .int .i64 v.sw] 34)).alloc (.cells #[.int .i64 v.y, .int .i64 v.fr, .int .i64 v.to] 3)).cell? ⟨w.heap.size + 1, 0, none⟩ = some (.int .i64 v.y) ∧ ((w.alloc (.cells #[.int .i64 v.id, .int .i64 v.y, .int .i64 v.fr, .int .i64 v.to, .int .i64 v.sw] 34)).alloc (.cells #[.int .i64 v.y, .int .i64 v.fr, .int .i64 v.to] 3)).cell? ⟨w.heap.size + 1, 1, none⟩ = some (.int .i64 v.fr) ∧ ((w.alloc (.cells #[.int .i64 v.id, .int .i64 v.y, .int .i64 v.fr, .int .i64 v.to, .int .i64 v.sw] 34)).alloc (.cells #[.int .i64 v.y, .int .i64 v.fr, .int .i64 v.to] 3)).cell? ⟨w.heap.size + 1, 2, none⟩ = some (.int .i64 v.to)) := by
    have h := Has.new (w.alloc (.cells #[.int .i64 v.id, .int .i64 v.y, .int .i64 v.fr, .int .i64 v.to, .int .i64 v.sw] 34)) #[.int .i64 v.y, .int .i64 v.fr, .int .i64 v.to] 3
    rw [World.size_alloc] at h
    exact Lib.hid ⟨h.at_ 0 _ rfl, h.at_ 1 _ rfl, h.at_ 2 _ rfl⟩
  rcases h1 : inB v.id 1 99 with _ | _
  · have HR : Hid (lnB v = false) := by unfold Hid; rw [lnB_is v _ _ _ h1 rfl rfl]; simp
    have H1 := Lib.hid h1
    clear h1
    go_enter Try.func91, Try.ntmps91
    go_wp2_with fail
    refine (within_v _ _ _ _ H1.out _).mono ?_
    rintro e w' ⟨rfl, rfl⟩
    go_wp2_with fail
    go_ret
    exact ⟨ret_bool HR.out.symm, (by repeat (first | exact Below.refl _ _ | refine Below.alloc ?_ (by simp; try omega) _))⟩
  rcases h2 : (inB v.y 0 1000 && inB v.fr 0 1000 && inB v.to 0 1000) with _ | _
  · have HR : Hid (lnB v = false) := by unfold Hid; rw [lnB_is v _ _ _ h1 h2 rfl]; simp
    have H1 := Lib.hid h1
    have H2 := Lib.hid h2
    clear h1 h2
    go_enter Try.func91, Try.ntmps91
    go_wp2_with fail
    refine (within_v _ _ _ _ H1.out _).mono ?_
    rintro e w' ⟨rfl, rfl⟩
    go_wp2_with fail
    refine (three_within 0 1000 v.y v.fr v.to _ H2.out _ _ _ HX.out.1 HX.out.2.1 HX.out.2.2).mono ?_
    rintro e w' ⟨rfl, rfl⟩
    go_wp2_with fail
    go_ret
    exact ⟨ret_bool HR.out.symm, (by repeat (first | exact Below.refl _ _ | refine Below.alloc ?_ (by simp; try omega) _))⟩
  by_cases h3 : v.fr < v.to
  · obtain ⟨d, h4⟩ : ∃ d, inB v.sw 1 300 = d := ⟨_, rfl⟩
    have HR : Hid (lnB v = d) := by unfold Hid; rw [lnB_is v _ _ _ h1 h2 h4, decide_eq_true h3]; simp
    have H1 := Lib.hid h1
    have H2 := Lib.hid h2
    have H4 := Lib.hid h4
    clear h1 h2 h4
    go_enter Try.func91, Try.ntmps91
    go_wp2_with fail
    refine (within_v _ _ _ _ H1.out _).mono ?_
    rintro e w' ⟨rfl, rfl⟩
    go_wp2_with fail
    refine (three_within 0 1000 v.y v.fr v.to _ H2.out _ _ _ HX.out.1 HX.out.2.1 HX.out.2.2).mono ?_
    rintro e w' ⟨rfl, rfl⟩
    go_wp2_with fail
    refine (swath_impl _ _ H4.out _).mono ?_
    rintro e w' ⟨rfl, rfl⟩
    go_wp2_with fail
    go_ret
    exact ⟨ret_bool HR.out.symm, (by repeat (first | exact Below.refl _ _ | refine Below.alloc ?_ (by simp; try omega) _))⟩
  · have HR : Hid (lnB v = false) := by unfold Hid; rw [lnB_is v _ _ _ h1 h2 rfl, decide_eq_false h3]; simp
    have H1 := Lib.hid h1
    have H2 := Lib.hid h2
    clear h1 h2
    go_enter Try.func91, Try.ntmps91
    go_wp2_with fail
    refine (within_v _ _ _ _ H1.out _).mono ?_
    rintro e w' ⟨rfl, rfl⟩
    go_wp2_with fail
    refine (three_within 0 1000 v.y v.fr v.to _ H2.out _ _ _ HX.out.1 HX.out.2.1 HX.out.2.2).mono ?_
    rintro e w' ⟨rfl, rfl⟩
    go_wp2_with fail
    go_ret
    exact ⟨ret_bool HR.out.symm, (by repeat (first | exact Below.refl _ _ | refine Below.alloc ?_ (by simp; try omega) _))⟩
/-! ### Rows -/
theorem lns_long {L : List LN} (h : ¬ L.length ≤ 8) : lnsB L = false := by unfold lnsB; rw [decide_eq_false h]; rfl
theorem lns_bad {L : List LN} {k : Nat} (h : k < L.length) (hb : lnStep L k = false) : lnsB L = false := by unfold lnsB; rw [lnGoodK_bad h hb, Bool.and_false]
theorem lns_fine {L : List LN} (h : L.length ≤ 8) (hb : lnGoodK L L.length = true) : lnsB L = true := by unfold lnsB; rw [hb, decide_eq_true h]; rfl
theorem lstep_invalid {L : List LN} {k : Nat} {v : LN} (h : L[k]? = some v) (hb : lnB v = false) : lnStep L k = false := by unfold lnStep; rw [lnAt_at h, hb]; rfl
theorem lstep_order {L : List LN} {k : Nat} {v v' : LN} (h : L[k + 1]? = some v) (h' : L[k]? = some v') (hb : ¬ v'.id < v.id) : lnStep L (k + 1) = false := by
  unfold lnStep; rw [lnAt_at h, Nat.add_sub_cancel, lnAt_at h', decide_eq_false hb]; simp
theorem lstep_fine0 {L : List LN} {v : LN} (h : L[0]? = some v) (hb : lnB v = true) : lnStep L 0 = true := by unfold lnStep; rw [lnAt_at h, hb]; rfl
theorem lstep_fine {L : List LN} {k : Nat} {v v' : LN} (h : L[k + 1]? = some v) (h' : L[k]? = some v') (hb : lnB v = true) (ho : v'.id < v.id) : lnStep L (k + 1) = true := by
  unfold lnStep; rw [lnAt_at h, Nat.add_sub_cancel, lnAt_at h', hb, decide_eq_true ho]; simp
set_option maxRecDepth 20000 in
set_option maxHeartbeats 3200000 in
theorem lns_impl (A : Option Addr) (n c : Nat) (L : List LN) (w : World) (hs : SdsN w w.heap.size A n L) (hm : n ≤ maxLen) :
    Calls Try.prog 19 #[.slice A n c] w fun e w' => e = .returned (.bool (lnsB L)) ∧ Below w.heap.size w w' := by
  obtain rfl := hs.1
  have HS := Lib.hid hs
  clear hs
  unfold maxLen at hm
  by_cases h8 : (8 : Int) < L.length
  · have HR := Lib.hid (lns_long (L := L) (by omega))
    go_enter Try.func19, Try.ntmps19
    go_wp2_with fail
    go_ret
    exact ⟨ret_bool HR.out.symm, Below.refl _ _⟩
  go_enter Try.func19, Try.ntmps19
  go_wp2_with fail
  go_loopw [10] (fun i wr => ∃ k : Nat, k ≤ L.length ∧ i = .int .i64 k ∧ Hid (lnGoodK L k = true) ∧ Hid (Below w.heap.size w wr)) (fun i _ => L.length - (intOf i).toNat)
  case atStart => exact ⟨0, Nat.zero_le _, rfl, by simp [Hid, lnGoodK], Lib.hid (Below.refl _ _)⟩
  case round =>
    obtain ⟨k, hk, rfl, hA, hB⟩ := hrel
    by_cases hlt : k < L.length
    · obtain ⟨b, o, v, rfl, hbl, hL, c0, c1, c2, c3, c4⟩ := (sds_atN HS.out hB.out).2 k hlt
      have HK := Lib.hid hL
      obtain ⟨W0, hW0⟩ : ∃ W0, W0 = wr.alloc (.cells #[.int .i64 v.id, .int .i64 v.y, .int .i64 v.fr, .int .i64 v.to, .int .i64 v.sw] 34) := ⟨_, rfl⟩
      have HW : Hid (Below wr.heap.size wr W0 ∧ Has W0 wr.heap.size [.int .i64 v.id, .int .i64 v.y, .int .i64 v.fr, .int .i64 v.to, .int .i64 v.sw]) := by rw [hW0]; exact box1 (Below.refl _ _)
      have HB0 := Lib.hid (bthen hB.out HW.out.1 hB.out.size)
      have a0 := HW.out.2.at_ 0 _ rfl
      have a1 := HW.out.2.at_ 1 _ rfl
      have a2 := HW.out.2.at_ 2 _ rfl
      have a3 := HW.out.2.at_ 3 _ rfl
      have a4 := HW.out.2.at_ 4 _ rfl
      have HE := Lib.hid hW0
      clear hW0 hL
      go_wp2_with fail
      rw [← HE.out]
      clear c0 c1 c2 c3 c4
      rcases hv : lnB v with _ | _
      · have HV := Lib.hid hv
        have HR := Lib.hid (lns_bad hlt (lstep_invalid HK.out hv))
        clear hv
        have lc0 := lcell (a0)
        have lc1 := lcell (a1)
        have lc2 := lcell (a2)
        have lc3 := lcell (a3)
        have lc4 := lcell (a4)
        refine region_later (W := W0) (by kernel_rfl) (by kernel_rfl) (Below.refl _ _) ?_
        repeat (go_big_quiet_step (((go_at_call 91; exact later_call (line_impl v _ HV.out _)))))
        refine wpQuiet_nil ?_
        intro W1 hW1
        have HL : Hid (Below W0.heap.size W0 W1) := by obtain ⟨x, rfl⟩ := hW1; exact Lib.hid x.below
        clear hW1 lc0 lc1 lc2 lc3 lc4
        have HT := Lib.hid (bthen HB0.out HL.out HB0.out.size)
        go_wp2_with fail
        go_ret
        exact ⟨ret_bool HR.out.symm, HT.out⟩
      have HV := Lib.hid hv
      clear hv
      rcases k with _ | j
      · have HR : Hid (lnGoodK L (0 + 1) = true) := by unfold Hid; rw [lnGoodK_succ, hA.out, lstep_fine0 HK.out HV.out]; rfl
        have lc0 := lcell (a0)
        have lc1 := lcell (a1)
        have lc2 := lcell (a2)
        have lc3 := lcell (a3)
        have lc4 := lcell (a4)
        refine region_later (W := W0) (by kernel_rfl) (by kernel_rfl) (Below.refl _ _) ?_
        repeat (go_big_quiet_step (((go_at_call 91; exact later_call (line_impl v _ HV.out _)))))
        refine wpQuiet_nil ?_
        intro W1 hW1
        have HL : Hid (Below W0.heap.size W0 W1) := by obtain ⟨x, rfl⟩ := hW1; exact Lib.hid x.below
        clear hW1 lc0 lc1 lc2 lc3 lc4
        have HT := Lib.hid (bthen HB0.out HL.out HB0.out.size)
        go_wp2_with fail
        go_roundw
        case rel => exact ⟨1, by omega, by go_num, HR, HT⟩
        case measure => simp [intOf]; omega
      · obtain ⟨b', o', v', hA', hb', hL', d0, d1, d2, d3, d4⟩ := (sds_atN HS.out hB.out).2 j (by omega)
        obtain ⟨rfl, rfl⟩ : b = b' ∧ o = o' := by injection hA' with h; injection h with h h'; exact ⟨h, h'⟩
        have e0 := cell_next HW.out.1 d0
        have HK' := Lib.hid hL'
        clear hA' hL' d1 d2 d3 d4
        by_cases hx : v.id ≤ v'.id
        · have HR := Lib.hid (lns_bad hlt (lstep_order HK.out HK'.out (by omega)))
          have hd : decide (v.id ≤ v'.id) = true := decide_eq_true hx
          have lc0 := lcell (a0)
          have lc1 := lcell (a1)
          have lc2 := lcell (a2)
          have lc3 := lcell (a3)
          have lc4 := lcell (a4)
          have lc5 := lcell (e0)
          refine region_later (W := W0) (by kernel_rfl) (by kernel_rfl) (Below.refl _ _) ?_
          repeat (go_big_quiet_step (((go_at_call 91; exact later_call (line_impl v _ HV.out _)))))
          refine wpQuiet_nil ?_
          intro W1 hW1
          have HL : Hid (Below W0.heap.size W0 W1) := by obtain ⟨x, rfl⟩ := hW1; exact Lib.hid x.below
          clear hW1 lc0 lc1 lc2 lc3 lc4 lc5
          have HT := Lib.hid (bthen HB0.out HL.out HB0.out.size)
          go_wp2_with fail
          go_ret
          exact ⟨ret_bool HR.out.symm, HT.out⟩
        have hd : decide (v.id ≤ v'.id) = false := decide_eq_false hx
        have HR : Hid (lnGoodK L (j + 1 + 1) = true) := by unfold Hid; rw [lnGoodK_succ, hA.out, lstep_fine HK.out HK'.out HV.out (by omega)]; rfl
        have lc0 := lcell (a0)
        have lc1 := lcell (a1)
        have lc2 := lcell (a2)
        have lc3 := lcell (a3)
        have lc4 := lcell (a4)
        have lc5 := lcell (e0)
        refine region_later (W := W0) (by kernel_rfl) (by kernel_rfl) (Below.refl _ _) ?_
        repeat (go_big_quiet_step (((go_at_call 91; exact later_call (line_impl v _ HV.out _)))))
        refine wpQuiet_nil ?_
        intro W1 hW1
        have HL : Hid (Below W0.heap.size W0 W1) := by obtain ⟨x, rfl⟩ := hW1; exact Lib.hid x.below
        clear hW1 lc0 lc1 lc2 lc3 lc4 lc5
        have HT := Lib.hid (bthen HB0.out HL.out HB0.out.size)
        go_wp2_with fail
        go_roundw
        case rel => exact ⟨j + 1 + 1, by omega, by go_num, HR, HT⟩
        case measure => simp [intOf]; omega
    · obtain rfl : k = L.length := by omega
      have HR := Lib.hid (lns_fine (by omega) hA.out)
      go_wp2_with fail
      go_ret
      exact ⟨ret_bool HR.out.symm, hB.out⟩
set_option maxRecDepth 20000 in
set_option maxHeartbeats 12800000 in
theorem lgood_spec (A : Option Addr) (n c : Nat) (L : List LN) (w : World) (hs : SdsN w w.heap.size A n L) (hm : n ≤ maxLen) :
    Calls Try.prog 94 #[.slice A n c] w fun e w' => e = .returned (.bool (lnsB L)) ∧ Below w.heap.size w w' := by
  obtain rfl := hs.1
  have HS := Lib.hid hs
  clear hs
  unfold maxLen at hm
  go_enter Try.func94, Try.ntmps94
  go_wp2_with fail
  go_loopw [3] (fun i wr => ∃ k : Nat, k ≤ L.length ∧ i = .int .i64 k ∧ Hid (lnGoodK L k = true) ∧ Hid (Below w.heap.size w wr)) (fun i _ => L.length - (intOf i).toNat)
  case atStart => exact ⟨0, Nat.zero_le _, rfl, by simp [Hid, lnGoodK], Lib.hid (Below.refl _ _)⟩
  case round =>
    obtain ⟨k, hk, rfl, hA, hB⟩ := hrel
    by_cases hlt : k < L.length
    · obtain ⟨b, o, v, rfl, hbl, hL, c0, c1, c2, c3, c4⟩ := (sds_atN HS.out hB.out).2 k hlt
      have HK := Lib.hid hL
      rcases h1 : inB v.id 1 99 with _ | _
      · have HR : Hid (lnsB L = false) := Lib.hid (lns_bad hlt (lstep_invalid HK.out (by unfold lnB; rw [h1]; simp)))
        have H1 := Lib.hid h1
        clear h1
        obtain ⟨W0, hW0⟩ : ∃ W0, W0 = wr.alloc (.cells #[.int .i64 v.id, .int .i64 v.y, .int .i64 v.fr, .int .i64 v.to, .int .i64 v.sw] 34) := ⟨_, rfl⟩
        have HW : Hid (Below wr.heap.size wr W0 ∧ Has W0 wr.heap.size [.int .i64 v.id, .int .i64 v.y, .int .i64 v.fr, .int .i64 v.to, .int .i64 v.sw]) := by rw [hW0]; exact box1 (Below.refl _ _)
        have HB0 := Lib.hid (bthen hB.out HW.out.1 hB.out.size)
        have a0 := HW.out.2.at_ 0 _ rfl
        have a1 := HW.out.2.at_ 1 _ rfl
        have a2 := HW.out.2.at_ 2 _ rfl
        have a3 := HW.out.2.at_ 3 _ rfl
        have a4 := HW.out.2.at_ 4 _ rfl
        have HE := Lib.hid hW0
        clear hW0 hL
        go_wp2_with fail
        rw [← HE.out]
        clear c0 c1 c2 c3 c4
        have lc0 := lcell (a0)
        have lc1 := lcell (a1)
        have lc2 := lcell (a2)
        have lc3 := lcell (a3)
        have lc4 := lcell (a4)
        refine region_later (W := W0) (by kernel_rfl) (by kernel_rfl) (Below.refl _ _) ?_
        repeat (go_big_quiet_step (((first | (go_at_call 89; with_reducible exact later_same (l1In_v _ _ _ _ H1.out _))))))
        refine wpQuiet_nil ?_
        intro W1 hW1
        have HL : Hid (Below W0.heap.size W0 W1) := by obtain ⟨x, rfl⟩ := hW1; exact Lib.hid x.below
        clear hW1 lc0 lc1 lc2 lc3 lc4
        have HT := Lib.hid (bthen HB0.out HL.out HB0.out.size)
        go_wp2_with fail
        go_ret
        exact ⟨ret_bool HR.out.symm, HT.out⟩
      rcases h2 : inB v.y 0 1000 with _ | _
      · have HR : Hid (lnsB L = false) := Lib.hid (lns_bad hlt (lstep_invalid HK.out (by unfold lnB; rw [h1, h2]; simp)))
        have H1 := Lib.hid h1
        have H2 := Lib.hid h2
        clear h1 h2
        obtain ⟨W0, hW0⟩ : ∃ W0, W0 = wr.alloc (.cells #[.int .i64 v.id, .int .i64 v.y, .int .i64 v.fr, .int .i64 v.to, .int .i64 v.sw] 34) := ⟨_, rfl⟩
        have HW : Hid (Below wr.heap.size wr W0 ∧ Has W0 wr.heap.size [.int .i64 v.id, .int .i64 v.y, .int .i64 v.fr, .int .i64 v.to, .int .i64 v.sw]) := by rw [hW0]; exact box1 (Below.refl _ _)
        have HB0 := Lib.hid (bthen hB.out HW.out.1 hB.out.size)
        have a0 := HW.out.2.at_ 0 _ rfl
        have a1 := HW.out.2.at_ 1 _ rfl
        have a2 := HW.out.2.at_ 2 _ rfl
        have a3 := HW.out.2.at_ 3 _ rfl
        have a4 := HW.out.2.at_ 4 _ rfl
        have HE := Lib.hid hW0
        clear hW0 hL
        go_wp2_with fail
        rw [← HE.out]
        clear c0 c1 c2 c3 c4
        have lc0 := lcell (a0)
        have lc1 := lcell (a1)
        have lc2 := lcell (a2)
        have lc3 := lcell (a3)
        have lc4 := lcell (a4)
        refine region_later (W := W0) (by kernel_rfl) (by kernel_rfl) (Below.refl _ _) ?_
        repeat (go_big_quiet_step (((first | (go_at_call 89; with_reducible exact later_same (l1In_v _ _ _ _ H1.out _)) | (go_at_call 160; with_reducible exact later_same (gridN_spec _ _ H2.out _))))))
        refine wpQuiet_nil ?_
        intro W1 hW1
        have HL : Hid (Below W0.heap.size W0 W1) := by obtain ⟨x, rfl⟩ := hW1; exact Lib.hid x.below
        clear hW1 lc0 lc1 lc2 lc3 lc4
        have HT := Lib.hid (bthen HB0.out HL.out HB0.out.size)
        go_wp2_with fail
        go_ret
        exact ⟨ret_bool HR.out.symm, HT.out⟩
      rcases h3 : inB v.fr 0 1000 with _ | _
      · have HR : Hid (lnsB L = false) := Lib.hid (lns_bad hlt (lstep_invalid HK.out (by unfold lnB; rw [h1, h2, h3]; simp)))
        have H1 := Lib.hid h1
        have H2 := Lib.hid h2
        have H3 := Lib.hid h3
        clear h1 h2 h3
        obtain ⟨W0, hW0⟩ : ∃ W0, W0 = wr.alloc (.cells #[.int .i64 v.id, .int .i64 v.y, .int .i64 v.fr, .int .i64 v.to, .int .i64 v.sw] 34) := ⟨_, rfl⟩
        have HW : Hid (Below wr.heap.size wr W0 ∧ Has W0 wr.heap.size [.int .i64 v.id, .int .i64 v.y, .int .i64 v.fr, .int .i64 v.to, .int .i64 v.sw]) := by rw [hW0]; exact box1 (Below.refl _ _)
        have HB0 := Lib.hid (bthen hB.out HW.out.1 hB.out.size)
        have a0 := HW.out.2.at_ 0 _ rfl
        have a1 := HW.out.2.at_ 1 _ rfl
        have a2 := HW.out.2.at_ 2 _ rfl
        have a3 := HW.out.2.at_ 3 _ rfl
        have a4 := HW.out.2.at_ 4 _ rfl
        have HE := Lib.hid hW0
        clear hW0 hL
        go_wp2_with fail
        rw [← HE.out]
        clear c0 c1 c2 c3 c4
        have lc0 := lcell (a0)
        have lc1 := lcell (a1)
        have lc2 := lcell (a2)
        have lc3 := lcell (a3)
        have lc4 := lcell (a4)
        refine region_later (W := W0) (by kernel_rfl) (by kernel_rfl) (Below.refl _ _) ?_
        repeat (go_big_quiet_step (((first | (go_at_call 89; with_reducible exact later_same (l1In_v _ _ _ _ H1.out _)) | (go_at_call 160; with_reducible exact later_same (gridN_spec _ _ H2.out _)) | (go_at_call 160; with_reducible exact later_same (gridN_spec _ _ H3.out _))))))
        refine wpQuiet_nil ?_
        intro W1 hW1
        have HL : Hid (Below W0.heap.size W0 W1) := by obtain ⟨x, rfl⟩ := hW1; exact Lib.hid x.below
        clear hW1 lc0 lc1 lc2 lc3 lc4
        have HT := Lib.hid (bthen HB0.out HL.out HB0.out.size)
        go_wp2_with fail
        go_ret
        exact ⟨ret_bool HR.out.symm, HT.out⟩
      rcases h4 : inB v.to 0 1000 with _ | _
      · have HR : Hid (lnsB L = false) := Lib.hid (lns_bad hlt (lstep_invalid HK.out (by unfold lnB; rw [h1, h2, h3, h4]; simp)))
        have H1 := Lib.hid h1
        have H2 := Lib.hid h2
        have H3 := Lib.hid h3
        have H4 := Lib.hid h4
        clear h1 h2 h3 h4
        obtain ⟨W0, hW0⟩ : ∃ W0, W0 = wr.alloc (.cells #[.int .i64 v.id, .int .i64 v.y, .int .i64 v.fr, .int .i64 v.to, .int .i64 v.sw] 34) := ⟨_, rfl⟩
        have HW : Hid (Below wr.heap.size wr W0 ∧ Has W0 wr.heap.size [.int .i64 v.id, .int .i64 v.y, .int .i64 v.fr, .int .i64 v.to, .int .i64 v.sw]) := by rw [hW0]; exact box1 (Below.refl _ _)
        have HB0 := Lib.hid (bthen hB.out HW.out.1 hB.out.size)
        have a0 := HW.out.2.at_ 0 _ rfl
        have a1 := HW.out.2.at_ 1 _ rfl
        have a2 := HW.out.2.at_ 2 _ rfl
        have a3 := HW.out.2.at_ 3 _ rfl
        have a4 := HW.out.2.at_ 4 _ rfl
        have HE := Lib.hid hW0
        clear hW0 hL
        go_wp2_with fail
        rw [← HE.out]
        clear c0 c1 c2 c3 c4
        have lc0 := lcell (a0)
        have lc1 := lcell (a1)
        have lc2 := lcell (a2)
        have lc3 := lcell (a3)
        have lc4 := lcell (a4)
        refine region_later (W := W0) (by kernel_rfl) (by kernel_rfl) (Below.refl _ _) ?_
        repeat (go_big_quiet_step (((first | (go_at_call 89; with_reducible exact later_same (l1In_v _ _ _ _ H1.out _)) | (go_at_call 160; with_reducible exact later_same (gridN_spec _ _ H2.out _)) | (go_at_call 160; with_reducible exact later_same (gridN_spec _ _ H3.out _)) | (go_at_call 160; with_reducible exact later_same (gridN_spec _ _ H4.out _))))))
        refine wpQuiet_nil ?_
        intro W1 hW1
        have HL : Hid (Below W0.heap.size W0 W1) := by obtain ⟨x, rfl⟩ := hW1; exact Lib.hid x.below
        clear hW1 lc0 lc1 lc2 lc3 lc4
        have HT := Lib.hid (bthen HB0.out HL.out HB0.out.size)
        go_wp2_with fail
        go_ret
        exact ⟨ret_bool HR.out.symm, HT.out⟩
      by_cases hx5 : v.fr < v.to
      rotate_left
      · have h5 : decide (v.fr < v.to) = false := decide_eq_false hx5
        have HR : Hid (lnsB L = false) := Lib.hid (lns_bad hlt (lstep_invalid HK.out (by unfold lnB; rw [h1, h2, h3, h4, h5]; simp)))
        have H1 := Lib.hid h1
        have H2 := Lib.hid h2
        have H3 := Lib.hid h3
        have H4 := Lib.hid h4
        clear h1 h2 h3 h4
        clear h5
        have hd : decide (v.to ≤ v.fr) = true := decide_eq_true (by omega)
        obtain ⟨W0, hW0⟩ : ∃ W0, W0 = wr.alloc (.cells #[.int .i64 v.id, .int .i64 v.y, .int .i64 v.fr, .int .i64 v.to, .int .i64 v.sw] 34) := ⟨_, rfl⟩
        have HW : Hid (Below wr.heap.size wr W0 ∧ Has W0 wr.heap.size [.int .i64 v.id, .int .i64 v.y, .int .i64 v.fr, .int .i64 v.to, .int .i64 v.sw]) := by rw [hW0]; exact box1 (Below.refl _ _)
        have HB0 := Lib.hid (bthen hB.out HW.out.1 hB.out.size)
        have a0 := HW.out.2.at_ 0 _ rfl
        have a1 := HW.out.2.at_ 1 _ rfl
        have a2 := HW.out.2.at_ 2 _ rfl
        have a3 := HW.out.2.at_ 3 _ rfl
        have a4 := HW.out.2.at_ 4 _ rfl
        have HE := Lib.hid hW0
        clear hW0 hL
        go_wp2_with fail
        rw [← HE.out]
        clear c0 c1 c2 c3 c4
        have lc0 := lcell (a0)
        have lc1 := lcell (a1)
        have lc2 := lcell (a2)
        have lc3 := lcell (a3)
        have lc4 := lcell (a4)
        refine region_later (W := W0) (by kernel_rfl) (by kernel_rfl) (Below.refl _ _) ?_
        repeat (go_big_quiet_step (((first | (go_at_call 89; with_reducible exact later_same (l1In_v _ _ _ _ H1.out _)) | (go_at_call 160; with_reducible exact later_same (gridN_spec _ _ H2.out _)) | (go_at_call 160; with_reducible exact later_same (gridN_spec _ _ H3.out _)) | (go_at_call 160; with_reducible exact later_same (gridN_spec _ _ H4.out _))))))
        refine wpQuiet_nil ?_
        intro W1 hW1
        have HL : Hid (Below W0.heap.size W0 W1) := by obtain ⟨x, rfl⟩ := hW1; exact Lib.hid x.below
        clear hW1 lc0 lc1 lc2 lc3 lc4
        have HT := Lib.hid (bthen HB0.out HL.out HB0.out.size)
        go_wp2_with fail
        go_ret
        exact ⟨ret_bool HR.out.symm, HT.out⟩
      have h5 : decide (v.fr < v.to) = true := decide_eq_true hx5
      rcases h6 : inB v.sw 1 300 with _ | _
      · have HR : Hid (lnsB L = false) := Lib.hid (lns_bad hlt (lstep_invalid HK.out (by unfold lnB; rw [h1, h2, h3, h4, h5, h6]; simp)))
        have H1 := Lib.hid h1
        have H2 := Lib.hid h2
        have H3 := Lib.hid h3
        have H4 := Lib.hid h4
        have H6 := Lib.hid h6
        clear h1 h2 h3 h4 h6
        clear h5
        have hd : decide (v.to ≤ v.fr) = false := decide_eq_false (by omega)
        obtain ⟨W0, hW0⟩ : ∃ W0, W0 = wr.alloc (.cells #[.int .i64 v.id, .int .i64 v.y, .int .i64 v.fr, .int .i64 v.to, .int .i64 v.sw] 34) := ⟨_, rfl⟩
        have HW : Hid (Below wr.heap.size wr W0 ∧ Has W0 wr.heap.size [.int .i64 v.id, .int .i64 v.y, .int .i64 v.fr, .int .i64 v.to, .int .i64 v.sw]) := by rw [hW0]; exact box1 (Below.refl _ _)
        have HB0 := Lib.hid (bthen hB.out HW.out.1 hB.out.size)
        have a0 := HW.out.2.at_ 0 _ rfl
        have a1 := HW.out.2.at_ 1 _ rfl
        have a2 := HW.out.2.at_ 2 _ rfl
        have a3 := HW.out.2.at_ 3 _ rfl
        have a4 := HW.out.2.at_ 4 _ rfl
        have HE := Lib.hid hW0
        clear hW0 hL
        go_wp2_with fail
        rw [← HE.out]
        clear c0 c1 c2 c3 c4
        have lc0 := lcell (a0)
        have lc1 := lcell (a1)
        have lc2 := lcell (a2)
        have lc3 := lcell (a3)
        have lc4 := lcell (a4)
        refine region_later (W := W0) (by kernel_rfl) (by kernel_rfl) (Below.refl _ _) ?_
        repeat (go_big_quiet_step (((first | (go_at_call 89; with_reducible exact later_same (l1In_v _ _ _ _ H1.out _)) | (go_at_call 160; with_reducible exact later_same (gridN_spec _ _ H2.out _)) | (go_at_call 160; with_reducible exact later_same (gridN_spec _ _ H3.out _)) | (go_at_call 160; with_reducible exact later_same (gridN_spec _ _ H4.out _)) | (go_at_call 89; with_reducible exact later_same (l1In_v _ _ _ _ H6.out _))))))
        refine wpQuiet_nil ?_
        intro W1 hW1
        have HL : Hid (Below W0.heap.size W0 W1) := by obtain ⟨x, rfl⟩ := hW1; exact Lib.hid x.below
        clear hW1 lc0 lc1 lc2 lc3 lc4
        have HT := Lib.hid (bthen HB0.out HL.out HB0.out.size)
        go_wp2_with fail
        go_ret
        exact ⟨ret_bool HR.out.symm, HT.out⟩
      have HV : Hid (lnB v = true) := by unfold Hid lnB; rw [h1, h2, h3, h4, h5, h6]; rfl
      have H1 := Lib.hid h1
      have H2 := Lib.hid h2
      have H3 := Lib.hid h3
      have H4 := Lib.hid h4
      have H6 := Lib.hid h6
      clear h1 h2 h3 h4 h5 h6
      have hd : decide (v.to ≤ v.fr) = false := decide_eq_false (by omega)
      rcases k with _ | j
      · have HR : Hid (lnGoodK L (0 + 1) = true) := by unfold Hid; rw [lnGoodK_succ, hA.out, lstep_fine0 HK.out HV.out]; rfl
        simp only [Nat.zero_mul, Nat.add_zero] at c0 c1 c2 c3 c4
        obtain ⟨W0, hW0⟩ : ∃ W0, W0 = wr.alloc (.cells #[.int .i64 v.id, .int .i64 v.y, .int .i64 v.fr, .int .i64 v.to, .int .i64 v.sw] 34) := ⟨_, rfl⟩
        have HW : Hid (Below wr.heap.size wr W0 ∧ Has W0 wr.heap.size [.int .i64 v.id, .int .i64 v.y, .int .i64 v.fr, .int .i64 v.to, .int .i64 v.sw]) := by rw [hW0]; exact box1 (Below.refl _ _)
        have HB0 := Lib.hid (bthen hB.out HW.out.1 hB.out.size)
        have a0 := HW.out.2.at_ 0 _ rfl
        have a1 := HW.out.2.at_ 1 _ rfl
        have a2 := HW.out.2.at_ 2 _ rfl
        have a3 := HW.out.2.at_ 3 _ rfl
        have a4 := HW.out.2.at_ 4 _ rfl
        have HE := Lib.hid hW0
        clear hW0 hL
        go_wp2_with fail
        rw [← HE.out]
        clear c0 c1 c2 c3 c4
        have lc0 := lcell (a0)
        have lc1 := lcell (a1)
        have lc2 := lcell (a2)
        have lc3 := lcell (a3)
        have lc4 := lcell (a4)
        refine region_later (W := W0) (by kernel_rfl) (by kernel_rfl) (Below.refl _ _) ?_
        repeat (go_big_quiet_step (((first | (go_at_call 89; with_reducible exact later_same (l1In_v _ _ _ _ H1.out _)) | (go_at_call 160; with_reducible exact later_same (gridN_spec _ _ H2.out _)) | (go_at_call 160; with_reducible exact later_same (gridN_spec _ _ H3.out _)) | (go_at_call 160; with_reducible exact later_same (gridN_spec _ _ H4.out _)) | (go_at_call 89; with_reducible exact later_same (l1In_v _ _ _ _ H6.out _))))))
        refine wpQuiet_nil ?_
        intro W1 hW1
        have HL : Hid (Below W0.heap.size W0 W1) := by obtain ⟨x, rfl⟩ := hW1; exact Lib.hid x.below
        clear hW1 lc0 lc1 lc2 lc3 lc4
        have HT := Lib.hid (bthen HB0.out HL.out HB0.out.size)
        go_wp2_with fail
        go_roundw
        case rel => exact ⟨1, by omega, by go_num, HR, HT⟩
        case measure => simp [intOf]; omega
      · obtain ⟨b', o', v', hA', hb', hL', d0, d1, d2, d3, d4⟩ := (sds_atN HS.out hB.out).2 j (by omega)
        obtain ⟨rfl, rfl⟩ : b = b' ∧ o = o' := by injection hA' with h; injection h with h h'; exact ⟨h, h'⟩
        have HK' := Lib.hid hL'
        clear hA' hL' d1 d2 d3 d4
        by_cases hx : v.id ≤ v'.id
        · have HR := Lib.hid (lns_bad hlt (lstep_order HK.out HK'.out (by omega)))
          have hd2 : decide (v.id ≤ v'.id) = true := decide_eq_true hx
          obtain ⟨W0, hW0⟩ : ∃ W0, W0 = wr.alloc (.cells #[.int .i64 v.id, .int .i64 v.y, .int .i64 v.fr, .int .i64 v.to, .int .i64 v.sw] 34) := ⟨_, rfl⟩
          have HW : Hid (Below wr.heap.size wr W0 ∧ Has W0 wr.heap.size [.int .i64 v.id, .int .i64 v.y, .int .i64 v.fr, .int .i64 v.to, .int .i64 v.sw]) := by rw [hW0]; exact box1 (Below.refl _ _)
          have HB0 := Lib.hid (bthen hB.out HW.out.1 hB.out.size)
          have a0 := HW.out.2.at_ 0 _ rfl
          have a1 := HW.out.2.at_ 1 _ rfl
          have a2 := HW.out.2.at_ 2 _ rfl
          have a3 := HW.out.2.at_ 3 _ rfl
          have a4 := HW.out.2.at_ 4 _ rfl
          have HE := Lib.hid hW0
          clear hW0 hL
          have e0 := cell_next HW.out.1 d0
          go_wp2_with fail
          rw [← HE.out]
          clear c0 c1 c2 c3 c4
          have lc0 := lcell (a0)
          have lc1 := lcell (a1)
          have lc2 := lcell (a2)
          have lc3 := lcell (a3)
          have lc4 := lcell (a4)
          have lc5 := lcell (e0)
          refine region_later (W := W0) (by kernel_rfl) (by kernel_rfl) (Below.refl _ _) ?_
          repeat (go_big_quiet_step (((first | (go_at_call 89; with_reducible exact later_same (l1In_v _ _ _ _ H1.out _)) | (go_at_call 160; with_reducible exact later_same (gridN_spec _ _ H2.out _)) | (go_at_call 160; with_reducible exact later_same (gridN_spec _ _ H3.out _)) | (go_at_call 160; with_reducible exact later_same (gridN_spec _ _ H4.out _)) | (go_at_call 89; with_reducible exact later_same (l1In_v _ _ _ _ H6.out _))))))
          refine wpQuiet_nil ?_
          intro W1 hW1
          have HL : Hid (Below W0.heap.size W0 W1) := by obtain ⟨x, rfl⟩ := hW1; exact Lib.hid x.below
          clear hW1 lc0 lc1 lc2 lc3 lc4 lc5
          have HT := Lib.hid (bthen HB0.out HL.out HB0.out.size)
          go_wp2_with fail
          go_ret
          exact ⟨ret_bool HR.out.symm, HT.out⟩
        have hd2 : decide (v.id ≤ v'.id) = false := decide_eq_false hx
        have HR : Hid (lnGoodK L (j + 1 + 1) = true) := by unfold Hid; rw [lnGoodK_succ, hA.out, lstep_fine HK.out HK'.out HV.out (by omega)]; rfl
        obtain ⟨W0, hW0⟩ : ∃ W0, W0 = wr.alloc (.cells #[.int .i64 v.id, .int .i64 v.y, .int .i64 v.fr, .int .i64 v.to, .int .i64 v.sw] 34) := ⟨_, rfl⟩
        have HW : Hid (Below wr.heap.size wr W0 ∧ Has W0 wr.heap.size [.int .i64 v.id, .int .i64 v.y, .int .i64 v.fr, .int .i64 v.to, .int .i64 v.sw]) := by rw [hW0]; exact box1 (Below.refl _ _)
        have HB0 := Lib.hid (bthen hB.out HW.out.1 hB.out.size)
        have a0 := HW.out.2.at_ 0 _ rfl
        have a1 := HW.out.2.at_ 1 _ rfl
        have a2 := HW.out.2.at_ 2 _ rfl
        have a3 := HW.out.2.at_ 3 _ rfl
        have a4 := HW.out.2.at_ 4 _ rfl
        have HE := Lib.hid hW0
        clear hW0 hL
        have e0 := cell_next HW.out.1 d0
        go_wp2_with fail
        rw [← HE.out]
        clear c0 c1 c2 c3 c4
        have lc0 := lcell (a0)
        have lc1 := lcell (a1)
        have lc2 := lcell (a2)
        have lc3 := lcell (a3)
        have lc4 := lcell (a4)
        have lc5 := lcell (e0)
        refine region_later (W := W0) (by kernel_rfl) (by kernel_rfl) (Below.refl _ _) ?_
        repeat (go_big_quiet_step (((first | (go_at_call 89; with_reducible exact later_same (l1In_v _ _ _ _ H1.out _)) | (go_at_call 160; with_reducible exact later_same (gridN_spec _ _ H2.out _)) | (go_at_call 160; with_reducible exact later_same (gridN_spec _ _ H3.out _)) | (go_at_call 160; with_reducible exact later_same (gridN_spec _ _ H4.out _)) | (go_at_call 89; with_reducible exact later_same (l1In_v _ _ _ _ H6.out _))))))
        refine wpQuiet_nil ?_
        intro W1 hW1
        have HL : Hid (Below W0.heap.size W0 W1) := by obtain ⟨x, rfl⟩ := hW1; exact Lib.hid x.below
        clear hW1 lc0 lc1 lc2 lc3 lc4 lc5
        have HT := Lib.hid (bthen HB0.out HL.out HB0.out.size)
        go_wp2_with fail
        go_roundw
        case rel => exact ⟨j + 1 + 1, by omega, by go_num, HR, HT⟩
        case measure => simp [intOf]; omega
    · obtain rfl : k = L.length := by omega
      by_cases h12 : L.length ≤ 8
      · have HR := Lib.hid (lns_fine h12 hA.out)
        go_wp2_with fail
        go_ret
        exact ⟨ret_bool ((decide_eq_true (by omega)).trans HR.out.symm), hB.out⟩
      · have HR := Lib.hid (lns_long h12)
        go_wp2_with fail
        go_ret
        exact ⟨ret_bool ((decide_eq_false (by omega)).trans HR.out.symm), hB.out⟩
theorem lns_impl_v (A : Option Addr) (n c : Nat) (L : List LN) (r : Bool) (h : lnsB L = r) (w : World) (hs : SdsN w w.heap.size A n L) (hm : n ≤ maxLen) :
    Calls Try.prog 19 #[.slice A n c] w fun e w' => e = .returned (.bool r) ∧ Below w.heap.size w w' := h ▸ lns_impl A n c L w hs hm
theorem lgood_spec_v (A : Option Addr) (n c : Nat) (L : List LN) (r : Bool) (h : lnsB L = r) (w : World) (hs : SdsN w w.heap.size A n L) (hm : n ≤ maxLen) :
    Calls Try.prog 94 #[.slice A n c] w fun e w' => e = .returned (.bool r) ∧ Below w.heap.size w w' := h ▸ lgood_spec A n c L w hs hm
end Go.Proofs.Ytdmnkmdlochogab
