/-
  Casts: contracts of impl.isTime, isReach, IsSpot, areLayers, IsCast, spec.l2Time, l7Depth, l2Grid, l2Spot, l7One, IsCast over this translation. Conditions: stated at each theorem.
-/
import Derived.Test.YtdmnkmdlochogabZp
import Derived.Test.YtdmnkmdlochogabPerm
namespace Go.Proofs.Ytdmnkmdlochogab
open Go.RowKit

theorem tmK_impl (n : Int) (v : Bool) (h : inB n 0 10000 = v) (w : World) :
    Calls Try.prog 139 #[.int .i64 n] w fun e w' => e = .returned (.bool v) ∧ w = w' := by
  have H := Lib.hid h
  clear h
  go_enter Try.func139, Try.ntmps139
  go_wp2_with fail
  refine (within_v _ _ _ _ H.out _).mono ?_
  rintro e w' ⟨rfl, rfl⟩
  go_wp2_with fail
  go_ret
  exact ⟨rfl, rfl⟩
theorem tmK_spec (n : Int) (v : Bool) (h : inB n 0 10000 = v) (w : World) :
    Calls Try.prog 143 #[.int .i64 n] w fun e w' => e = .returned (.bool v) ∧ w = w' := by
  have H := Lib.hid h
  clear h
  go_enter Try.func143, Try.ntmps143
  go_wp2_with fail
  refine (l1In_v _ _ _ _ H.out _).mono ?_
  rintro e w' ⟨rfl, rfl⟩
  go_wp2_with fail
  go_ret
  exact ⟨rfl, rfl⟩
theorem reach_impl (n : Int) (v : Bool) (h : inB n 0 20000 = v) (w : World) :
    Calls Try.prog 186 #[.int .i64 n] w fun e w' => e = .returned (.bool v) ∧ w = w' := by
  have H := Lib.hid h
  clear h
  go_enter Try.func186, Try.ntmps186
  go_wp2_with fail
  refine (within_v _ _ _ _ H.out _).mono ?_
  rintro e w' ⟨rfl, rfl⟩
  go_wp2_with fail
  go_ret
  exact ⟨rfl, rfl⟩
theorem dep_spec (n : Int) (v : Bool) (h : inB n 0 20000 = v) (w : World) :
    Calls Try.prog 130 #[.int .i64 n] w fun e w' => e = .returned (.bool v) ∧ w = w' := by
  have H := Lib.hid h
  clear h
  go_enter Try.func130, Try.ntmps130
  go_wp2_with fail
  refine (l1In_v _ _ _ _ H.out _).mono ?_
  rintro e w' ⟨rfl, rfl⟩
  go_wp2_with fail
  go_ret
  exact ⟨rfl, rfl⟩
theorem grid_spec (n : Int) (v : Bool) (h : inB n 0 1000 = v) (w : World) :
    Calls Try.prog 160 #[.int .i64 n] w fun e w' => e = .returned (.bool v) ∧ w = w' := by
  have H := Lib.hid h
  clear h
  go_enter Try.func160, Try.ntmps160
  go_wp2_with fail
  refine (l1In_v _ _ _ _ H.out _).mono ?_
  rintro e w' ⟨rfl, rfl⟩
  go_wp2_with fail
  go_ret
  exact ⟨rfl, rfl⟩
def spB (x y : Int) : Bool := inB x 0 1000 && inB y 0 1000
theorem spB_yes {x y : Int} (h : spB x y = true) : (0 ≤ x ∧ x ≤ 1000) ∧ (0 ≤ y ∧ y ≤ 1000) := by
  unfold spB at h
  rw [Bool.and_eq_true] at h
  exact ⟨inB_yes h.1, inB_yes h.2⟩
theorem spotK_impl (x y : Int) (v : Bool) (h : spB x y = v) (w : World) :
    Calls Try.prog 145 #[.agg #[.int .i64 x, .int .i64 y]] w fun e w' => e = .returned (.bool v) ∧ Below w.heap.size w w' := by
  subst h
  rcases hx : inB x 0 1000 with _ | _
  · have HX := Lib.hid hx
    have HR : Hid (spB x y = false) := by unfold Hid spB; rw [hx]; rfl
    clear hx
    go_enter Try.func145, Try.ntmps145
    go_wp2_with fail
    refine (within_v _ _ _ _ HX.out _).mono ?_
    rintro e w' ⟨rfl, rfl⟩
    go_wp2_with fail
    go_ret
    exact ⟨ret_bool HR.out.symm, (Below.refl _ _).alloc (Nat.le_refl _) _⟩
  · have HX := Lib.hid hx
    obtain ⟨v, hv⟩ : ∃ v, inB y 0 1000 = v := ⟨_, rfl⟩
    have HY := Lib.hid hv
    have HR : Hid (spB x y = v) := by unfold Hid spB; rw [hx, hv]; rfl
    clear hx hv
    go_enter Try.func145, Try.ntmps145
    go_wp2_with fail
    refine (within_v _ _ _ _ HX.out _).mono ?_
    rintro e w' ⟨rfl, rfl⟩
    go_wp2_with fail
    refine (within_v _ _ _ _ HY.out _).mono ?_
    rintro e w' ⟨rfl, rfl⟩
    go_wp2_with fail
    go_ret
    exact ⟨ret_bool HR.out.symm, (Below.refl _ _).alloc (Nat.le_refl _) _⟩
theorem spotK_spec (x y : Int) (v : Bool) (h : spB x y = v) (w : World) :
    Calls Try.prog 147 #[.agg #[.int .i64 x, .int .i64 y]] w fun e w' => e = .returned (.bool v) ∧ Below w.heap.size w w' := by
  subst h
  rcases hx : inB x 0 1000 with _ | _
  · have HX := Lib.hid hx
    have HR : Hid (spB x y = false) := by unfold Hid spB; rw [hx]; rfl
    clear hx
    go_enter Try.func147, Try.ntmps147
    go_wp2_with fail
    refine (grid_spec _ _ HX.out _).mono ?_
    rintro e w' ⟨rfl, rfl⟩
    go_wp2_with fail
    go_ret
    exact ⟨ret_bool HR.out.symm, (Below.refl _ _).alloc (Nat.le_refl _) _⟩
  · have HX := Lib.hid hx
    obtain ⟨v, hv⟩ : ∃ v, inB y 0 1000 = v := ⟨_, rfl⟩
    have HY := Lib.hid hv
    have HR : Hid (spB x y = v) := by unfold Hid spB; rw [hx, hv]; rfl
    clear hx hv
    go_enter Try.func147, Try.ntmps147
    go_wp2_with fail
    refine (grid_spec _ _ HX.out _).mono ?_
    rintro e w' ⟨rfl, rfl⟩
    go_wp2_with fail
    refine (grid_spec _ _ HY.out _).mono ?_
    rintro e w' ⟨rfl, rfl⟩
    go_wp2_with fail
    go_ret
    exact ⟨ret_bool HR.out.symm, (Below.refl _ _).alloc (Nat.le_refl _) _⟩
/-! ### Layers -/
theorem lays_at {l : List (Int × Int)} {k : Nat} {x y : Int} (h : l[k]? = some (x, y)) (hb : qlayB l k = false) : laysB l = false :=
  laysB_bad (qgoodK_bad (List.getElem?_eq_some_iff.1 h).1 hb)
theorem lay_no1 {l : List (Int × Int)} {k : Nat} {x y : Int} (h : l[k]? = some (x, y)) (hx : inB x 0 20000 = false) : qlayB l k = false := by unfold qlayB; rw [depAt_at h, hx]; rfl
theorem lay_no2 {l : List (Int × Int)} {k : Nat} {x y : Int} (h : l[k]? = some (x, y)) (hy : inB y 14000 16000 = false) : qlayB l k = false := by unfold qlayB; rw [spdAt_at h, hy, Bool.and_false]; rfl
theorem lay_zero_v {l : List (Int × Int)} {x y : Int} (h : l[0]? = some (x, y)) (hx : inB x 0 20000 = true) (hy : inB y 14000 16000 = true) : qlayB l 0 = decide (x = 0) := by rw [qlay_zero h, hx, hy]; rfl
theorem lay_zero_no {l : List (Int × Int)} {x y : Int} (h : l[0]? = some (x, y)) (hx : x ≠ 0) : qlayB l 0 = false := by rw [qlay_zero h, decide_eq_false hx, Bool.and_false]
theorem lay_succ_v {l : List (Int × Int)} {k : Nat} {x y x' y' : Int} (h : l[k + 1]? = some (x, y)) (h' : l[k]? = some (x', y')) (hx : inB x 0 20000 = true) (hy : inB y 14000 16000 = true) : qlayB l (k + 1) = decide (x' < x) := by rw [qlay_succ h h', hx, hy]; rfl
set_option maxHeartbeats 1600000 in
theorem lays_impl (A : Option Addr) (n c : Nat) (l : List (Int × Int)) (w : World) (hs : Spots w w.heap.size A n l) (hm : n ≤ maxLen) :
    Calls Try.prog 175 #[.slice A n c] w fun e w' => e = .returned (.bool (laysB l)) ∧ Below w.heap.size w w' := by
  obtain rfl := hs.1
  have HS := Lib.hid hs
  clear hs
  unfold maxLen at hm
  rcases h1 : inB (l.length : Int) 1 8 with _ | _
  · have H1 := Lib.hid h1
    have HR := Lib.hid (laysB_len h1)
    clear h1
    go_enter Try.func175, Try.ntmps175
    go_wp2_with fail
    refine (within_v _ _ _ _ H1.out _).mono ?_
    rintro e w' ⟨rfl, rfl⟩
    go_wp2_with fail
    go_ret
    exact ⟨ret_bool HR.out.symm, Below.refl _ _⟩
  have H1 := Lib.hid h1
  have hl1 := inB_yes h1
  obtain ⟨hl1, hl8⟩ := hl1
  clear h1
  obtain ⟨b, o, x, y, hA0, hbl, hlk, hc0, hc1⟩ := HS.out.2 0 (by omega)
  subst hA0
  simp only [Nat.zero_mul, Nat.add_zero] at hc0 hc1
  by_cases hx0 : x = 0
  rotate_left
  · have HR := Lib.hid (lays_at hlk (lay_zero_no hlk hx0))
    have hd : (x != 0) = true := bne_iff_ne.2 hx0
    clear hlk
    go_enter Try.func175, Try.ntmps175
    go_wp2_with fail
    refine (within_v _ _ _ _ H1.out _).mono ?_
    rintro e w' ⟨rfl, rfl⟩
    go_wp2_with fail
    go_ret
    exact ⟨ret_bool HR.out.symm, Below.refl _ _⟩
  subst hx0
  have HZ := Lib.hid (depAt_at hlk)
  clear hlk
  go_enter Try.func175, Try.ntmps175
  go_wp2_with fail
  refine (within_v _ _ _ _ H1.out _).mono ?_
  rintro e w' ⟨rfl, rfl⟩
  go_wp2_with fail
  clear hc0 hc1 hbl
  obtain ⟨AA, hAA⟩ : ∃ AA : Option Addr, AA = some ⟨b, o, none⟩ := ⟨_, rfl⟩
  rw [← hAA] at HS
  rw [← hAA]
  clear hAA
  go_loopw [18] (fun i wr => ∃ k : Nat, k ≤ l.length ∧ i = .int .i64 k ∧ Hid (qgoodK l k = true) ∧ Hid (Below w.heap.size w wr)) (fun i _ => l.length - (intOf i).toNat)
  case atStart => exact ⟨0, Nat.zero_le _, rfl, by simp [Hid, qgoodK], Lib.hid (Below.refl _ _)⟩
  case round =>
    obtain ⟨k, hk, rfl, hA, hB⟩ := hrel
    by_cases hlt : k < l.length
    · obtain ⟨b, o, x, y, rfl, hbl, hlk, hc0, hc1⟩ := (HS.out.on hB.out (Nat.le_refl _)).2 k hlt
      have HK := Lib.hid hlk
      clear hlk
      obtain ⟨W0, hW0⟩ : ∃ W0, W0 = wr.alloc (.cells #[.int .i64 x, .int .i64 y] 140) := ⟨_, rfl⟩
      have HW : Hid (Below wr.heap.size wr W0 ∧ Has W0 wr.heap.size [.int .i64 x, .int .i64 y]) := by rw [hW0]; exact box1 (Below.refl _ _)
      have HB0 := Lib.hid (bthen hB.out HW.out.1 hB.out.size)
      have a0 := HW.out.2.at_ 0 _ rfl
      have a1 := HW.out.2.at_ 1 _ rfl
      have HE := Lib.hid hW0
      clear hW0
      go_wp2_with fail
      rw [← HE.out]
      rcases ht : inB x 0 20000 with _ | _
      · have HT := Lib.hid ht
        have HR := Lib.hid (lays_at HK.out (lay_no1 HK.out ht))
        clear ht
        have lc0 := lcell (a0)
        have lc1 := lcell (a1)
        refine region_later (W := W0) (by kernel_rfl) (by kernel_rfl) (Below.refl _ _) ?_
        repeat (go_big_quiet_step (((first | (go_at_call 186; exact later_same (reach_impl _ _ HT.out _)) | (go_at_call 114; exact later_same (within_v _ _ _ _ HV.out _))))))
        refine wpQuiet_nil ?_
        intro W1 hW1
        have HL : Hid (Below W0.heap.size W0 W1) := by obtain ⟨x, rfl⟩ := hW1; exact Lib.hid x.below
        clear hW1 lc0 lc1
        have HT2 := Lib.hid (bthen HB0.out HL.out HB0.out.size)
        go_wp2_with fail
        go_ret
        exact ⟨ret_bool HR.out.symm, HT2.out⟩
      rcases hv : inB y 14000 16000 with _ | _
      · have HT := Lib.hid ht
        have HV := Lib.hid hv
        have HR := Lib.hid (lays_at HK.out (lay_no2 HK.out hv))
        clear ht hv
        have lc0 := lcell (a0)
        have lc1 := lcell (a1)
        refine region_later (W := W0) (by kernel_rfl) (by kernel_rfl) (Below.refl _ _) ?_
        repeat (go_big_quiet_step (((first | (go_at_call 186; exact later_same (reach_impl _ _ HT.out _)) | (go_at_call 114; exact later_same (within_v _ _ _ _ HV.out _))))))
        refine wpQuiet_nil ?_
        intro W1 hW1
        have HL : Hid (Below W0.heap.size W0 W1) := by obtain ⟨x, rfl⟩ := hW1; exact Lib.hid x.below
        clear hW1 lc0 lc1
        have HT2 := Lib.hid (bthen HB0.out HL.out HB0.out.size)
        go_wp2_with fail
        go_ret
        exact ⟨ret_bool HR.out.symm, HT2.out⟩
      have HT := Lib.hid ht
      have HV := Lib.hid hv
      clear ht hv
      rcases k with _ | j
      · have HR : Hid (qgoodK l (0 + 1) = true) := by unfold Hid; rw [qgoodK_succ, hA.out, lay_zero_v HK.out HT.out HV.out]; exact decide_eq_true (by have := depAt_at HK.out; have := HZ.out; omega)
        simp only [Nat.zero_mul, Nat.add_zero] at hc0 hc1
        have lc0 := lcell (a0)
        have lc1 := lcell (a1)
        refine region_later (W := W0) (by kernel_rfl) (by kernel_rfl) (Below.refl _ _) ?_
        repeat (go_big_quiet_step (((first | (go_at_call 186; exact later_same (reach_impl _ _ HT.out _)) | (go_at_call 114; exact later_same (within_v _ _ _ _ HV.out _))))))
        refine wpQuiet_nil ?_
        intro W1 hW1
        have HL : Hid (Below W0.heap.size W0 W1) := by obtain ⟨x, rfl⟩ := hW1; exact Lib.hid x.below
        clear hW1 lc0 lc1
        have HT2 := Lib.hid (bthen HB0.out HL.out HB0.out.size)
        go_wp2_with fail
        go_roundw
        case rel => exact ⟨1, by omega, by go_num, HR, HT2⟩
        case measure => simp [intOf]; omega
      · obtain ⟨b', o', x', y', hA', hb', hl', d0, d1⟩ := (HS.out.on hB.out (Nat.le_refl _)).2 j (by omega)
        obtain ⟨rfl, rfl⟩ : b = b' ∧ o = o' := by injection hA' with h; injection h with h h'; exact ⟨h, h'⟩
        have e0 := cell_next HW.out.1 d0
        clear d0 d1
        have HJ := Lib.hid (lay_succ_v HK.out hl' HT.out HV.out)
        clear hA' hl'
        have hk0 : ((j : Int) + 1 == 0) = false := beq_eq_false_iff_ne.2 (by omega)
        by_cases hx : x ≤ x'
        · have HR := Lib.hid (lays_at HK.out (by rw [HJ.out]; exact decide_eq_false (by omega)))
          have hd : decide (x ≤ x') = true := decide_eq_true hx
          have lc0 := lcell (a0)
          have lc1 := lcell (a1)
          have lc2 := lcell (e0)
          refine region_later (W := W0) (by kernel_rfl) (by kernel_rfl) (Below.refl _ _) ?_
          repeat (go_big_quiet_step (((first | (go_at_call 186; exact later_same (reach_impl _ _ HT.out _)) | (go_at_call 114; exact later_same (within_v _ _ _ _ HV.out _))))))
          refine wpQuiet_nil ?_
          intro W1 hW1
          have HL : Hid (Below W0.heap.size W0 W1) := by obtain ⟨x, rfl⟩ := hW1; exact Lib.hid x.below
          clear hW1 lc0 lc1 lc2
          have HT2 := Lib.hid (bthen HB0.out HL.out HB0.out.size)
          go_wp2_with fail
          go_ret
          exact ⟨ret_bool HR.out.symm, HT2.out⟩
        · have HR : Hid (qgoodK l (j + 1 + 1) = true) := by unfold Hid; rw [qgoodK_succ, hA.out, HJ.out]; exact decide_eq_true (by omega)
          have hd : decide (x ≤ x') = false := decide_eq_false hx
          have lc0 := lcell (a0)
          have lc1 := lcell (a1)
          have lc2 := lcell (e0)
          refine region_later (W := W0) (by kernel_rfl) (by kernel_rfl) (Below.refl _ _) ?_
          repeat (go_big_quiet_step (((first | (go_at_call 186; exact later_same (reach_impl _ _ HT.out _)) | (go_at_call 114; exact later_same (within_v _ _ _ _ HV.out _))))))
          refine wpQuiet_nil ?_
          intro W1 hW1
          have HL : Hid (Below W0.heap.size W0 W1) := by obtain ⟨x, rfl⟩ := hW1; exact Lib.hid x.below
          clear hW1 lc0 lc1 lc2
          have HT2 := Lib.hid (bthen HB0.out HL.out HB0.out.size)
          go_wp2_with fail
          go_roundw
          case rel => exact ⟨j + 1 + 1, by omega, by go_num, HR, HT2⟩
          case measure => simp [intOf]; omega
    · have HR : Hid (laysB l = true) := by
        have h1 := hA.out
        obtain rfl : k = l.length := by omega
        exact (laysB_good h1).trans H1.out
      go_wp2
      go_ret
      exact ⟨ret_bool HR.out.symm, hB.out⟩
theorem lays_v (A : Option Addr) (n c : Nat) (l : List (Int × Int)) (v : Bool) (h : laysB l = v) (w : World) (hs : Spots w w.heap.size A n l) (hm : n ≤ maxLen) :
    Calls Try.prog 175 #[.slice A n c] w fun e w' => e = .returned (.bool v) ∧ Below w.heap.size w w' := h ▸ lays_impl A n c l w hs hm
/-! ### Casts -/
theorem castB_lays_no {v : KC} (h : laysB v.l = false) : castB v = false := by unfold castB; rw [h]; rfl
theorem castB_eq (id tm x y : Int) (l : List (Int × Int)) : castB ⟨id, tm, x, y, l⟩ = (laysB l && inB id 1 99 && inB tm 0 10000 && spB x y) := by unfold castB spB; simp [Bool.and_assoc]
set_option maxHeartbeats 1600000 in
theorem isC_impl (id tm x0 y0 : Int) (A : Option Addr) (n c : Nat) (l : List (Int × Int)) (w : World) (hs : Spots w w.heap.size A n l) (hm : n ≤ maxLen) :
    Calls Try.prog 126 #[.agg #[.int .i64 id, .int .i64 tm, .int .i64 x0, .int .i64 y0, .slice A n c]] w fun e w' => e = .returned (.bool (castB ⟨id, tm, x0, y0, l⟩)) ∧ Below w.heap.size w w' := by
  have HS := Lib.hid hs
  have HQ := Lib.hid (castB_eq id tm x0 y0 l)
  clear hs
  obtain ⟨W0, hW0⟩ : ∃ W0, W0 = w.alloc (.cells #[.int .i64 id, .int .i64 tm, .int .i64 x0, .int .i64 y0, .slice A n c] 64) := ⟨_, rfl⟩
  have HW : Hid (Below w.heap.size w W0 ∧ Has W0 w.heap.size [.int .i64 id, .int .i64 tm, .int .i64 x0, .int .i64 y0, .slice A n c]) := by rw [hW0]; exact box1 (Below.refl _ _)
  have HE := Lib.hid hW0
  clear hW0
  rcases h0 : inB id 1 99 with _ | _
  · have HI := Lib.hid h0
    have HR : Hid (castB ⟨id, tm, x0, y0, l⟩ = false) := by unfold Hid; rw [HQ.out, h0]; simp
    clear h0
    go_enter Try.func126, Try.ntmps126
    go_wp2_with fail
    try rw [← HE.out]
    have c0 := HW.out.2.at_ 0 _ rfl
    have c1 := HW.out.2.at_ 1 _ rfl
    have c2 := HW.out.2.at_ 2 _ rfl
    have c3 := HW.out.2.at_ 3 _ rfl
    have c4 := HW.out.2.at_ 4 _ rfl
    go_wp2_with fail
    refine (within_v _ _ _ _ HI.out _).mono ?_
    rintro e w' ⟨rfl, rfl⟩
    go_wp2_with fail
    go_ret
    exact ⟨ret_bool HR.out.symm, HW.out.1⟩
  have HI := Lib.hid h0
  rcases h1 : inB tm 0 10000 with _ | _
  · have HT := Lib.hid h1
    have HR : Hid (castB ⟨id, tm, x0, y0, l⟩ = false) := by unfold Hid; rw [HQ.out, h1]; simp
    clear h1
    go_enter Try.func126, Try.ntmps126
    go_wp2_with fail
    try rw [← HE.out]
    have c0 := HW.out.2.at_ 0 _ rfl
    have c1 := HW.out.2.at_ 1 _ rfl
    have c2 := HW.out.2.at_ 2 _ rfl
    have c3 := HW.out.2.at_ 3 _ rfl
    have c4 := HW.out.2.at_ 4 _ rfl
    go_wp2_with fail
    refine (within_v _ _ _ _ HI.out _).mono ?_
    rintro e w' ⟨rfl, rfl⟩
    go_wp2_with fail
    refine (tmK_impl _ _ HT.out _).mono ?_
    rintro e w' ⟨rfl, rfl⟩
    go_wp2_with fail
    go_ret
    exact ⟨ret_bool HR.out.symm, HW.out.1⟩
  have HT := Lib.hid h1
  rcases h2 : spB x0 y0 with _ | _
  · have HP := Lib.hid h2
    have HR : Hid (castB ⟨id, tm, x0, y0, l⟩ = false) := by unfold Hid; rw [HQ.out, h2]; simp
    clear h2
    go_enter Try.func126, Try.ntmps126
    go_wp2_with fail
    try rw [← HE.out]
    have c0 := HW.out.2.at_ 0 _ rfl
    have c1 := HW.out.2.at_ 1 _ rfl
    have c2 := HW.out.2.at_ 2 _ rfl
    have c3 := HW.out.2.at_ 3 _ rfl
    have c4 := HW.out.2.at_ 4 _ rfl
    go_wp2_with fail
    refine (within_v _ _ _ _ HI.out _).mono ?_
    rintro e w' ⟨rfl, rfl⟩
    go_wp2_with fail
    refine (tmK_impl _ _ HT.out _).mono ?_
    rintro e w' ⟨rfl, rfl⟩
    go_wp2_with fail
    refine (spotK_impl _ _ _ HP.out _).mono ?_
    rintro e w1 ⟨rfl, hb⟩
    have HB1 := Lib.hid (bthen HW.out.1 hb HW.out.1.size)
    replace c4 := cell_next hb c4
    clear hb c0 c1 c2 c3
    go_wp2_with fail
    go_ret
    exact ⟨ret_bool HR.out.symm, HB1.out⟩
  have HP := Lib.hid h2
  have HR : Hid (castB ⟨id, tm, x0, y0, l⟩ = laysB l) := by unfold Hid; rw [HQ.out, h0, h1, h2]; simp
  clear h0 h1 h2
  go_enter Try.func126, Try.ntmps126
  go_wp2_with fail
  try rw [← HE.out]
  have c0 := HW.out.2.at_ 0 _ rfl
  have c1 := HW.out.2.at_ 1 _ rfl
  have c2 := HW.out.2.at_ 2 _ rfl
  have c3 := HW.out.2.at_ 3 _ rfl
  have c4 := HW.out.2.at_ 4 _ rfl
  go_wp2_with fail
  refine (within_v _ _ _ _ HI.out _).mono ?_
  rintro e w' ⟨rfl, rfl⟩
  go_wp2_with fail
  refine (tmK_impl _ _ HT.out _).mono ?_
  rintro e w' ⟨rfl, rfl⟩
  go_wp2_with fail
  refine (spotK_impl _ _ _ HP.out _).mono ?_
  rintro e w1 ⟨rfl, hb⟩
  have HB1 := Lib.hid (bthen HW.out.1 hb HW.out.1.size)
  replace c4 := cell_next hb c4
  clear hb c0 c1 c2 c3
  go_wp2_with fail
  refine (lays_impl A n c l _ (spots_at HS.out HB1.out) hm).mono ?_
  rintro e w2 ⟨rfl, hb⟩
  have HB2 := Lib.hid (bthen HB1.out hb HB1.out.size)
  clear hb c4
  go_wp2_with fail
  go_ret
  exact ⟨ret_bool HR.out.symm, HB2.out⟩
set_option maxHeartbeats 3200000 in
theorem one_spec (id tm x0 y0 : Int) (A : Option Addr) (n c : Nat) (l : List (Int × Int)) (w : World) (hs : Spots w w.heap.size A n l) (hm : n ≤ maxLen) :
    Calls Try.prog 129 #[.agg #[.int .i64 id, .int .i64 tm, .int .i64 x0, .int .i64 y0, .slice A n c]] w fun e w' => e = .returned (.bool (castB ⟨id, tm, x0, y0, l⟩)) ∧ Below w.heap.size w w' := by
  obtain rfl := hs.1
  have HS := Lib.hid hs
  have HQ := Lib.hid (castB_eq id tm x0 y0 l)
  clear hs
  unfold maxLen at hm
  obtain ⟨W0, hW0⟩ : ∃ W0, W0 = w.alloc (.cells #[.int .i64 id, .int .i64 tm, .int .i64 x0, .int .i64 y0, .slice A l.length c] 64) := ⟨_, rfl⟩
  have HW : Hid (Below w.heap.size w W0 ∧ Has W0 w.heap.size [.int .i64 id, .int .i64 tm, .int .i64 x0, .int .i64 y0, .slice A l.length c]) := by rw [hW0]; exact box1 (Below.refl _ _)
  have HE := Lib.hid hW0
  clear hW0
  have HB00 := Lib.hid HW.out.1
  have HC00 := Lib.hid HW.out.2
  go_enter Try.func129, Try.ntmps129
  go_wp2_with fail
  rw [← HE.out]
  clear HE HW
  go_loopw [3] (fun i wr => ∃ k : Nat, k ≤ l.length ∧ i = .int .i64 k ∧ Hid (qgoodK l k = true) ∧ Hid (Below w.heap.size w wr) ∧ Hid (Has wr w.heap.size [.int .i64 id, .int .i64 tm, .int .i64 x0, .int .i64 y0, .slice A l.length c])) (fun i _ => l.length - (intOf i).toNat)
  case atStart => exact ⟨0, Nat.zero_le _, rfl, by simp [Hid, qgoodK], HB00, HC00⟩
  case round =>
    obtain ⟨k, hk, rfl, hA, hB, hC⟩ := hrel
    by_cases hlt : k < l.length
    · obtain ⟨b, o, x, y, rfl, hbl, hlk, hc0, hc1⟩ := (HS.out.on hB.out (Nat.le_refl _)).2 k hlt
      have HK := Lib.hid hlk
      clear hlk
      obtain ⟨W0, hW0⟩ : ∃ W0, W0 = wr.alloc (.cells #[.int .i64 x, .int .i64 y] 140) := ⟨_, rfl⟩
      have HW : Hid (Below wr.heap.size wr W0 ∧ Has W0 wr.heap.size [.int .i64 x, .int .i64 y]) := by rw [hW0]; exact box1 (Below.refl _ _)
      have HB0 := Lib.hid (bthen hB.out HW.out.1 hB.out.size)
      have e4 := hC.out.at_ 4 _ rfl
      have HA0 := Lib.hid (hC.out.next HW.out.1)
      have c4 := HA0.out.at_ 4 _ rfl
      have a0 := HW.out.2.at_ 0 _ rfl
      have a1 := HW.out.2.at_ 1 _ rfl
      have HE := Lib.hid hW0
      clear hW0
      go_wp2_with fail
      rw [← HE.out]
      clear e4
      rcases ht : inB x 0 20000 with _ | _
      · have HT := Lib.hid ht
        have HR := Lib.hid (castB_lays_no (v := ⟨id, tm, x0, y0, l⟩) (lays_at HK.out (lay_no1 HK.out ht)))
        clear ht
        have lc0 := lcell (a0)
        have lc1 := lcell (a1)
        have lc2 := lcell (c4)
        refine region_later (W := W0) (by kernel_rfl) (by kernel_rfl) (Below.refl _ _) ?_
        repeat (go_big_quiet_step (((first | (go_at_call 130; exact later_same (dep_spec _ _ HT.out _)) | (go_at_call 89; exact later_same (l1In_v _ _ _ _ HV.out _))))))
        refine wpQuiet_nil ?_
        intro W1 hW1
        have HL : Hid (Below W0.heap.size W0 W1) := by obtain ⟨x, rfl⟩ := hW1; exact Lib.hid x.below
        clear hW1 lc0 lc1 lc2
        have HT2 := Lib.hid (bthen HB0.out HL.out HB0.out.size)
        have HA2 := Lib.hid (HA0.out.next HL.out)
        go_wp2_with fail
        go_ret
        exact ⟨ret_bool HR.out.symm, HT2.out⟩
      rcases hv : inB y 14000 16000 with _ | _
      · have HT := Lib.hid ht
        have HV := Lib.hid hv
        have HR := Lib.hid (castB_lays_no (v := ⟨id, tm, x0, y0, l⟩) (lays_at HK.out (lay_no2 HK.out hv)))
        clear ht hv
        have lc0 := lcell (a0)
        have lc1 := lcell (a1)
        have lc2 := lcell (c4)
        refine region_later (W := W0) (by kernel_rfl) (by kernel_rfl) (Below.refl _ _) ?_
        repeat (go_big_quiet_step (((first | (go_at_call 130; exact later_same (dep_spec _ _ HT.out _)) | (go_at_call 89; exact later_same (l1In_v _ _ _ _ HV.out _))))))
        refine wpQuiet_nil ?_
        intro W1 hW1
        have HL : Hid (Below W0.heap.size W0 W1) := by obtain ⟨x, rfl⟩ := hW1; exact Lib.hid x.below
        clear hW1 lc0 lc1 lc2
        have HT2 := Lib.hid (bthen HB0.out HL.out HB0.out.size)
        have HA2 := Lib.hid (HA0.out.next HL.out)
        go_wp2_with fail
        go_ret
        exact ⟨ret_bool HR.out.symm, HT2.out⟩
      have HT := Lib.hid ht
      have HV := Lib.hid hv
      clear ht hv
      rcases k with _ | j
      · simp only [Nat.zero_mul, Nat.add_zero] at hc0 hc1
        by_cases hx0 : x = 0
        · subst hx0
          have HR : Hid (qgoodK l (0 + 1) = true) := by unfold Hid; rw [qgoodK_succ, hA.out, lay_zero_v HK.out HT.out HV.out]; rfl
          have lc0 := lcell (a0)
          have lc1 := lcell (a1)
          have lc2 := lcell (c4)
          refine region_later (W := W0) (by kernel_rfl) (by kernel_rfl) (Below.refl _ _) ?_
          repeat (go_big_quiet_step (((first | (go_at_call 130; exact later_same (dep_spec _ _ HT.out _)) | (go_at_call 89; exact later_same (l1In_v _ _ _ _ HV.out _))))))
          refine wpQuiet_nil ?_
          intro W1 hW1
          have HL : Hid (Below W0.heap.size W0 W1) := by obtain ⟨x, rfl⟩ := hW1; exact Lib.hid x.below
          clear hW1 lc0 lc1 lc2
          have HT2 := Lib.hid (bthen HB0.out HL.out HB0.out.size)
          have HA2 := Lib.hid (HA0.out.next HL.out)
          go_wp2_with fail
          go_roundw
          case rel => exact ⟨1, by omega, by go_num, HR, HT2, HA2⟩
          case measure => simp [intOf]; omega
        · have HR := Lib.hid (castB_lays_no (v := ⟨id, tm, x0, y0, l⟩) (lays_at HK.out (lay_zero_no HK.out hx0)))
          have hd : (x != 0) = true := bne_iff_ne.2 hx0
          have lc0 := lcell (a0)
          have lc1 := lcell (a1)
          have lc2 := lcell (c4)
          refine region_later (W := W0) (by kernel_rfl) (by kernel_rfl) (Below.refl _ _) ?_
          repeat (go_big_quiet_step (((first | (go_at_call 130; exact later_same (dep_spec _ _ HT.out _)) | (go_at_call 89; exact later_same (l1In_v _ _ _ _ HV.out _))))))
          refine wpQuiet_nil ?_
          intro W1 hW1
          have HL : Hid (Below W0.heap.size W0 W1) := by obtain ⟨x, rfl⟩ := hW1; exact Lib.hid x.below
          clear hW1 lc0 lc1 lc2
          have HT2 := Lib.hid (bthen HB0.out HL.out HB0.out.size)
          have HA2 := Lib.hid (HA0.out.next HL.out)
          go_wp2_with fail
          go_ret
          exact ⟨ret_bool HR.out.symm, HT2.out⟩
      · obtain ⟨b', o', x', y', hA', hb', hl', d0, d1⟩ := (HS.out.on hB.out (Nat.le_refl _)).2 j (by omega)
        obtain ⟨rfl, rfl⟩ : b = b' ∧ o = o' := by injection hA' with h; injection h with h h'; exact ⟨h, h'⟩
        have e0 := cell_next HW.out.1 d0
        clear d0 d1
        have HJ := Lib.hid (lay_succ_v HK.out hl' HT.out HV.out)
        clear hA' hl'
        have hk0 : ((j : Int) + 1 == 0) = false := beq_eq_false_iff_ne.2 (by omega)
        by_cases hx : x ≤ x'
        · have HR := Lib.hid (castB_lays_no (v := ⟨id, tm, x0, y0, l⟩) (lays_at HK.out (by rw [HJ.out]; exact decide_eq_false (by omega))))
          have hd : decide (x' ≥ x) = true := decide_eq_true hx
          have lc0 := lcell (a0)
          have lc1 := lcell (a1)
          have lc2 := lcell (c4)
          have lc3 := lcell (e0)
          refine region_later (W := W0) (by kernel_rfl) (by kernel_rfl) (Below.refl _ _) ?_
          repeat (go_big_quiet_step (((first | (go_at_call 130; exact later_same (dep_spec _ _ HT.out _)) | (go_at_call 89; exact later_same (l1In_v _ _ _ _ HV.out _))))))
          refine wpQuiet_nil ?_
          intro W1 hW1
          have HL : Hid (Below W0.heap.size W0 W1) := by obtain ⟨x, rfl⟩ := hW1; exact Lib.hid x.below
          clear hW1 lc0 lc1 lc2 lc3
          have HT2 := Lib.hid (bthen HB0.out HL.out HB0.out.size)
          have HA2 := Lib.hid (HA0.out.next HL.out)
          go_wp2_with fail
          go_ret
          exact ⟨ret_bool HR.out.symm, HT2.out⟩
        · have HR : Hid (qgoodK l (j + 1 + 1) = true) := by unfold Hid; rw [qgoodK_succ, hA.out, HJ.out]; exact decide_eq_true (by omega)
          have hd : decide (x' ≥ x) = false := decide_eq_false hx
          have lc0 := lcell (a0)
          have lc1 := lcell (a1)
          have lc2 := lcell (c4)
          have lc3 := lcell (e0)
          refine region_later (W := W0) (by kernel_rfl) (by kernel_rfl) (Below.refl _ _) ?_
          repeat (go_big_quiet_step (((first | (go_at_call 130; exact later_same (dep_spec _ _ HT.out _)) | (go_at_call 89; exact later_same (l1In_v _ _ _ _ HV.out _))))))
          refine wpQuiet_nil ?_
          intro W1 hW1
          have HL : Hid (Below W0.heap.size W0 W1) := by obtain ⟨x, rfl⟩ := hW1; exact Lib.hid x.below
          clear hW1 lc0 lc1 lc2 lc3
          have HT2 := Lib.hid (bthen HB0.out HL.out HB0.out.size)
          have HA2 := Lib.hid (HA0.out.next HL.out)
          go_wp2_with fail
          go_roundw
          case rel => exact ⟨j + 1 + 1, by omega, by go_num, HR, HT2, HA2⟩
          case measure => simp [intOf]; omega
    · have HG : Hid (laysB l = inB (l.length : Int) 1 8) := by
        have h1 := hA.out
        obtain rfl : k = l.length := by omega
        exact laysB_good h1
      clear hA
      have c0 := hC.out.at_ 0 _ rfl
      have c1 := hC.out.at_ 1 _ rfl
      have c2 := hC.out.at_ 2 _ rfl
      have c3 := hC.out.at_ 3 _ rfl
      have c4 := hC.out.at_ 4 _ rfl
      rcases h0 : inB id 1 99 with _ | _
      · have HI := Lib.hid h0
        have HR : Hid (castB ⟨id, tm, x0, y0, l⟩ = false) := by unfold Hid; rw [HQ.out, h0]; simp
        clear h0
        go_wp2_with fail
        refine (l1In_v _ _ _ _ HI.out _).mono ?_
        rintro e w' ⟨rfl, rfl⟩
        go_wp2_with fail
        go_ret
        exact ⟨ret_bool HR.out.symm, hB.out⟩
      have HI := Lib.hid h0
      rcases h1 : inB tm 0 10000 with _ | _
      · have HT := Lib.hid h1
        have HR : Hid (castB ⟨id, tm, x0, y0, l⟩ = false) := by unfold Hid; rw [HQ.out, h1]; simp
        clear h1
        go_wp2_with fail
        refine (l1In_v _ _ _ _ HI.out _).mono ?_
        rintro e w' ⟨rfl, rfl⟩
        go_wp2_with fail
        refine (tmK_spec _ _ HT.out _).mono ?_
        rintro e w' ⟨rfl, rfl⟩
        go_wp2_with fail
        go_ret
        exact ⟨ret_bool HR.out.symm, hB.out⟩
      have HT := Lib.hid h1
      rcases h2 : spB x0 y0 with _ | _
      · have HP := Lib.hid h2
        have HR : Hid (castB ⟨id, tm, x0, y0, l⟩ = false) := by unfold Hid; rw [HQ.out, h2]; simp
        clear h2
        go_wp2_with fail
        refine (l1In_v _ _ _ _ HI.out _).mono ?_
        rintro e w' ⟨rfl, rfl⟩
        go_wp2_with fail
        refine (tmK_spec _ _ HT.out _).mono ?_
        rintro e w' ⟨rfl, rfl⟩
        go_wp2_with fail
        refine (spotK_spec _ _ _ HP.out _).mono ?_
        rintro e w1 ⟨rfl, hb⟩
        have HB1 := Lib.hid (bthen hB.out hb hB.out.size)
        replace c4 := cell_next hb c4
        clear hb c0 c1 c2 c3
        go_wp2_with fail
        go_ret
        exact ⟨ret_bool HR.out.symm, HB1.out⟩
      have HP := Lib.hid h2
      have HR : Hid (castB ⟨id, tm, x0, y0, l⟩ = inB (l.length : Int) 1 8) := by unfold Hid; rw [HQ.out, h0, h1, h2, HG.out]; simp
      clear h0 h1 h2
      go_wp2_with fail
      refine (l1In_v _ _ _ _ HI.out _).mono ?_
      rintro e w' ⟨rfl, rfl⟩
      go_wp2_with fail
      refine (tmK_spec _ _ HT.out _).mono ?_
      rintro e w' ⟨rfl, rfl⟩
      go_wp2_with fail
      refine (spotK_spec _ _ _ HP.out _).mono ?_
      rintro e w1 ⟨rfl, hb⟩
      have HB1 := Lib.hid (bthen hB.out hb hB.out.size)
      replace c4 := cell_next hb c4
      clear hb c0 c1 c2 c3
      go_wp2_with fail
      refine (l1In_any _ _ _ _).mono ?_
      rintro e w' ⟨rfl, rfl⟩
      go_wp2_with fail
      go_ret
      exact ⟨ret_bool HR.out.symm, HB1.out⟩
theorem isC_v (id tm x0 y0 : Int) (A : Option Addr) (n c : Nat) (l : List (Int × Int)) (v : Bool) (h : castB ⟨id, tm, x0, y0, l⟩ = v) (w : World) (hs : Spots w w.heap.size A n l) (hm : n ≤ maxLen) :
    Calls Try.prog 126 #[.agg #[.int .i64 id, .int .i64 tm, .int .i64 x0, .int .i64 y0, .slice A n c]] w fun e w' => e = .returned (.bool v) ∧ Below w.heap.size w w' := h ▸ isC_impl id tm x0 y0 A n c l w hs hm
theorem one_v (id tm x0 y0 : Int) (A : Option Addr) (n c : Nat) (l : List (Int × Int)) (v : Bool) (h : castB ⟨id, tm, x0, y0, l⟩ = v) (w : World) (hs : Spots w w.heap.size A n l) (hm : n ≤ maxLen) :
    Calls Try.prog 129 #[.agg #[.int .i64 id, .int .i64 tm, .int .i64 x0, .int .i64 y0, .slice A n c]] w fun e w' => e = .returned (.bool v) ∧ Below w.heap.size w w' := h ▸ one_spec id tm x0 y0 A n c l w hs hm
end Go.Proofs.Ytdmnkmdlochogab
