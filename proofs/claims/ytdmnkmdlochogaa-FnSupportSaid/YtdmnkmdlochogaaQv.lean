/-
  Soundings: contracts of impl.isDoubt, isDepth, IsSpot, IsSounding, AreSoundings, spec.l2Depth, l2Grid, l2Spot, l8One, l8Good, IsSounding, AreSoundings over this translation. Conditions: stated at each theorem.
-/
import Derived.Test.YtdmnkmdlochogaaQo
import Derived.Test.YtdmnkmdlochogaaPerm
namespace Go.Proofs.Ytdmnkmdlochogaa
open Go.RowKit
set_option linter.unusedVariables false

theorem dbtS_impl (n : Int) (v : Bool) (h : inB n 0 500 = v) (w : World) :
    Calls Try.prog 142 #[.int .i64 n] w fun e w' => e = .returned (.bool v) ∧ w = w' := by
  have H := Lib.hid h
  clear h
  go_enter Try.func142, Try.ntmps142
  go_wp2_with fail
  refine (within_v _ _ _ _ H.out _).mono ?_
  rintro e w' ⟨rfl, rfl⟩
  go_wp2_with fail
  go_ret
  exact ⟨rfl, rfl⟩
theorem depS_impl (n : Int) (v : Bool) (h : inB n (-1000) 20000 = v) (w : World) :
    Calls Try.prog 183 #[.int .i64 n] w fun e w' => e = .returned (.bool v) ∧ w = w' := by
  have H := Lib.hid h
  clear h
  go_enter Try.func183, Try.ntmps183
  go_wp2_with fail
  refine (within_v _ _ _ _ H.out _).mono ?_
  rintro e w' ⟨rfl, rfl⟩
  go_wp2_with fail
  go_ret
  exact ⟨rfl, rfl⟩
theorem depS_spec (n : Int) (v : Bool) (h : inB n (-1000) 20000 = v) (w : World) :
    Calls Try.prog 184 #[.int .i64 n] w fun e w' => e = .returned (.bool v) ∧ w = w' := by
  have H := Lib.hid h
  clear h
  go_enter Try.func184, Try.ntmps184
  go_wp2_with fail
  refine (l1In_v _ _ _ _ H.out _).mono ?_
  rintro e w' ⟨rfl, rfl⟩
  go_wp2_with fail
  go_ret
  exact ⟨rfl, rfl⟩
theorem gridS_spec (n : Int) (v : Bool) (h : inB n 0 1000 = v) (w : World) :
    Calls Try.prog 132 #[.int .i64 n] w fun e w' => e = .returned (.bool v) ∧ w = w' := by
  have H := Lib.hid h
  clear h
  go_enter Try.func132, Try.ntmps132
  go_wp2_with fail
  refine (l1In_v _ _ _ _ H.out _).mono ?_
  rintro e w' ⟨rfl, rfl⟩
  go_wp2_with fail
  go_ret
  exact ⟨rfl, rfl⟩
def spS (x y : Int) : Bool := inB x 0 1000 && inB y 0 1000
theorem spS_yes {x y : Int} (h : spS x y = true) : (0 ≤ x ∧ x ≤ 1000) ∧ (0 ≤ y ∧ y ≤ 1000) := by
  unfold spS at h
  rw [Bool.and_eq_true] at h
  exact ⟨inB_yes h.1, inB_yes h.2⟩
theorem spotS_impl (x y : Int) (v : Bool) (h : spS x y = v) (w : World) :
    Calls Try.prog 125 #[.agg #[.int .i64 x, .int .i64 y]] w fun e w' => e = .returned (.bool v) ∧ Below w.heap.size w w' := by
  subst h
  rcases hx : inB x 0 1000 with _ | _
  · have HX := Lib.hid hx
    have HR : Hid (spS x y = false) := by unfold Hid spS; rw [hx]; rfl
    clear hx
    go_enter Try.func125, Try.ntmps125
    go_wp2_with fail
    refine (within_v _ _ _ _ HX.out _).mono ?_
    rintro e w' ⟨rfl, rfl⟩
    go_wp2_with fail
    go_ret
    exact ⟨ret_bool HR.out.symm, (Below.refl _ _).alloc (Nat.le_refl _) _⟩
  · have HX := Lib.hid hx
    obtain ⟨v, hv⟩ : ∃ v, inB y 0 1000 = v := ⟨_, rfl⟩
    have HY := Lib.hid hv
    have HR : Hid (spS x y = v) := by unfold Hid spS; rw [hx, hv]; rfl
    clear hx hv
    go_enter Try.func125, Try.ntmps125
    go_wp2_with fail
    refine (within_v _ _ _ _ HX.out _).mono ?_
    rintro e w' ⟨rfl, rfl⟩
    go_wp2_with fail
    refine (within_v _ _ _ _ HY.out _).mono ?_
    rintro e w' ⟨rfl, rfl⟩
    go_wp2_with fail
    go_ret
    exact ⟨ret_bool HR.out.symm, (Below.refl _ _).alloc (Nat.le_refl _) _⟩
theorem spotS_spec (x y : Int) (v : Bool) (h : spS x y = v) (w : World) :
    Calls Try.prog 131 #[.agg #[.int .i64 x, .int .i64 y]] w fun e w' => e = .returned (.bool v) ∧ Below w.heap.size w w' := by
  subst h
  rcases hx : inB x 0 1000 with _ | _
  · have HX := Lib.hid hx
    have HR : Hid (spS x y = false) := by unfold Hid spS; rw [hx]; rfl
    clear hx
    go_enter Try.func131, Try.ntmps131
    go_wp2_with fail
    refine (gridS_spec _ _ HX.out _).mono ?_
    rintro e w' ⟨rfl, rfl⟩
    go_wp2_with fail
    go_ret
    exact ⟨ret_bool HR.out.symm, (Below.refl _ _).alloc (Nat.le_refl _) _⟩
  · have HX := Lib.hid hx
    obtain ⟨v, hv⟩ : ∃ v, inB y 0 1000 = v := ⟨_, rfl⟩
    have HY := Lib.hid hv
    have HR : Hid (spS x y = v) := by unfold Hid spS; rw [hx, hv]; rfl
    clear hx hv
    go_enter Try.func131, Try.ntmps131
    go_wp2_with fail
    refine (gridS_spec _ _ HX.out _).mono ?_
    rintro e w' ⟨rfl, rfl⟩
    go_wp2_with fail
    refine (gridS_spec _ _ HY.out _).mono ?_
    rintro e w' ⟨rfl, rfl⟩
    go_wp2_with fail
    go_ret
    exact ⟨ret_bool HR.out.symm, (Below.refl _ _).alloc (Nat.le_refl _) _⟩
/-! ### One sounding -/
theorem sdB_is (v : SD) (a b c d : Bool) (h1 : inB v.id 1 999 = a) (h2 : spS v.x v.y = b) (h3 : inB v.dep (-1000) 20000 = c) (h4 : inB v.dbt 0 500 = d) : sdB v = (a && b && c && d) := by
  subst h1; subst h2; subst h3; subst h4
  unfold sdB spS
  rcases inB v.id 1 999 with _ | _
  · rfl
  · rcases inB v.x 0 1000 with _ | _
    · rfl
    · rfl
set_option maxHeartbeats 800000 in
theorem sound_impl (v : SD) (r : Bool) (h : sdB v = r) (w : World) :
    Calls Try.prog 169 #[.agg #[.int .i64 v.id, .int .i64 v.x, .int .i64 v.y, .int .i64 v.dep, .int .i64 v.dbt]] w fun e w' => e = .returned (.bool r) ∧ Below w.heap.size w w' := by
  subst h
  have HX0 := Lib.hid (box1 (cs := #[.int .i64 v.id, .int .i64 v.x, .int .i64 v.y, .int .i64 v.dep, .int .i64 v.dbt]) (T := 75) (Below.refl _ _) (w := w))
  rcases h1 : inB v.id 1 999 with _ | _
  · have HR : Hid (sdB v = false) := by
      unfold Hid; rw [sdB_is v _ _ _ _ h1 rfl rfl rfl]; simp
    have H1 := Lib.hid h1
    clear h1
    go_enter Try.func169, Try.ntmps169
    go_wp2_with fail
    refine (within_v _ _ _ _ H1.out _).mono ?_
    rintro e w' ⟨rfl, rfl⟩
    go_wp2_with fail
    go_ret
    exact ⟨ret_bool HR.out.symm, HX0.out.1⟩
  rcases h2 : spS v.x v.y with _ | _
  · have HR : Hid (sdB v = false) := by
      unfold Hid; rw [sdB_is v _ _ _ _ h1 h2 rfl rfl]; simp
    have H1 := Lib.hid h1
    have H2 := Lib.hid h2
    clear h1 h2
    go_enter Try.func169, Try.ntmps169
    go_wp2_with fail
    refine (within_v _ _ _ _ H1.out _).mono ?_
    rintro e w' ⟨rfl, rfl⟩
    go_wp2_with fail
    refine (spotS_impl _ _ _ H2.out _).mono ?_
    rintro e w1 ⟨rfl, hb⟩
    have HX1 := Lib.hid (box1 hb)
    clear hb
    have a3 := HX1.out.2.at_ 3 _ rfl
    have a4 := HX1.out.2.at_ 4 _ rfl
    go_wp2_with fail
    go_ret
    exact ⟨ret_bool HR.out.symm, HX1.out.1⟩
  rcases h3 : inB v.dep (-1000) 20000 with _ | _
  · have HR : Hid (sdB v = false) := by
      unfold Hid; rw [sdB_is v _ _ _ _ h1 h2 h3 rfl]; simp
    have H1 := Lib.hid h1
    have H2 := Lib.hid h2
    have H3 := Lib.hid h3
    clear h1 h2 h3
    go_enter Try.func169, Try.ntmps169
    go_wp2_with fail
    refine (within_v _ _ _ _ H1.out _).mono ?_
    rintro e w' ⟨rfl, rfl⟩
    go_wp2_with fail
    refine (spotS_impl _ _ _ H2.out _).mono ?_
    rintro e w1 ⟨rfl, hb⟩
    have HX1 := Lib.hid (box1 hb)
    clear hb
    have a3 := HX1.out.2.at_ 3 _ rfl
    have a4 := HX1.out.2.at_ 4 _ rfl
    go_wp2_with fail
    refine (depS_impl _ _ H3.out _).mono ?_
    rintro e w' ⟨rfl, rfl⟩
    go_wp2_with fail
    go_ret
    exact ⟨ret_bool HR.out.symm, HX1.out.1⟩
  obtain ⟨d, h4⟩ : ∃ d, inB v.dbt 0 500 = d := ⟨_, rfl⟩
  have HR : Hid (sdB v = d) := by
    unfold Hid; rw [sdB_is v _ _ _ _ h1 h2 h3 h4]; simp
  have H1 := Lib.hid h1
  have H2 := Lib.hid h2
  have H3 := Lib.hid h3
  have H4 := Lib.hid h4
  clear h1 h2 h3 h4
  go_enter Try.func169, Try.ntmps169
  go_wp2_with fail
  refine (within_v _ _ _ _ H1.out _).mono ?_
  rintro e w' ⟨rfl, rfl⟩
  go_wp2_with fail
  refine (spotS_impl _ _ _ H2.out _).mono ?_
  rintro e w1 ⟨rfl, hb⟩
  have HX1 := Lib.hid (box1 hb)
  clear hb
  have a3 := HX1.out.2.at_ 3 _ rfl
  have a4 := HX1.out.2.at_ 4 _ rfl
  go_wp2_with fail
  refine (depS_impl _ _ H3.out _).mono ?_
  rintro e w' ⟨rfl, rfl⟩
  go_wp2_with fail
  refine (dbtS_impl _ _ H4.out _).mono ?_
  rintro e w' ⟨rfl, rfl⟩
  go_wp2_with fail
  go_ret
  exact ⟨ret_bool HR.out.symm, HX1.out.1⟩
set_option maxHeartbeats 800000 in
theorem one_spec (v : SD) (r : Bool) (h : sdB v = r) (w : World) :
    Calls Try.prog 170 #[.agg #[.int .i64 v.id, .int .i64 v.x, .int .i64 v.y, .int .i64 v.dep, .int .i64 v.dbt]] w fun e w' => e = .returned (.bool r) ∧ Below w.heap.size w w' := by
  subst h
  have HX0 := Lib.hid (box1 (cs := #[.int .i64 v.id, .int .i64 v.x, .int .i64 v.y, .int .i64 v.dep, .int .i64 v.dbt]) (T := 75) (Below.refl _ _) (w := w))
  rcases h1 : inB v.id 1 999 with _ | _
  · have HR : Hid (sdB v = false) := by
      unfold Hid; rw [sdB_is v _ _ _ _ h1 rfl rfl rfl]; simp
    have H1 := Lib.hid h1
    clear h1
    go_enter Try.func170, Try.ntmps170
    go_wp2_with fail
    refine (l1In_v _ _ _ _ H1.out _).mono ?_
    rintro e w' ⟨rfl, rfl⟩
    go_wp2_with fail
    go_ret
    exact ⟨ret_bool HR.out.symm, HX0.out.1⟩
  rcases h2 : spS v.x v.y with _ | _
  · have HR : Hid (sdB v = false) := by
      unfold Hid; rw [sdB_is v _ _ _ _ h1 h2 rfl rfl]; simp
    have H1 := Lib.hid h1
    have H2 := Lib.hid h2
    clear h1 h2
    go_enter Try.func170, Try.ntmps170
    go_wp2_with fail
    refine (l1In_v _ _ _ _ H1.out _).mono ?_
    rintro e w' ⟨rfl, rfl⟩
    go_wp2_with fail
    refine (spotS_spec _ _ _ H2.out _).mono ?_
    rintro e w1 ⟨rfl, hb⟩
    have HX1 := Lib.hid (box1 hb)
    clear hb
    have a3 := HX1.out.2.at_ 3 _ rfl
    have a4 := HX1.out.2.at_ 4 _ rfl
    go_wp2_with fail
    go_ret
    exact ⟨ret_bool HR.out.symm, HX1.out.1⟩
  rcases h3 : inB v.dep (-1000) 20000 with _ | _
  · have HR : Hid (sdB v = false) := by
      unfold Hid; rw [sdB_is v _ _ _ _ h1 h2 h3 rfl]; simp
    have H1 := Lib.hid h1
    have H2 := Lib.hid h2
    have H3 := Lib.hid h3
    clear h1 h2 h3
    go_enter Try.func170, Try.ntmps170
    go_wp2_with fail
    refine (l1In_v _ _ _ _ H1.out _).mono ?_
    rintro e w' ⟨rfl, rfl⟩
    go_wp2_with fail
    refine (spotS_spec _ _ _ H2.out _).mono ?_
    rintro e w1 ⟨rfl, hb⟩
    have HX1 := Lib.hid (box1 hb)
    clear hb
    have a3 := HX1.out.2.at_ 3 _ rfl
    have a4 := HX1.out.2.at_ 4 _ rfl
    go_wp2_with fail
    refine (depS_spec _ _ H3.out _).mono ?_
    rintro e w' ⟨rfl, rfl⟩
    go_wp2_with fail
    go_ret
    exact ⟨ret_bool HR.out.symm, HX1.out.1⟩
  obtain ⟨d, h4⟩ : ∃ d, inB v.dbt 0 500 = d := ⟨_, rfl⟩
  have HR : Hid (sdB v = d) := by
    unfold Hid; rw [sdB_is v _ _ _ _ h1 h2 h3 h4]; simp
  have H1 := Lib.hid h1
  have H2 := Lib.hid h2
  have H3 := Lib.hid h3
  have H4 := Lib.hid h4
  clear h1 h2 h3 h4
  go_enter Try.func170, Try.ntmps170
  go_wp2_with fail
  refine (l1In_v _ _ _ _ H1.out _).mono ?_
  rintro e w' ⟨rfl, rfl⟩
  go_wp2_with fail
  refine (spotS_spec _ _ _ H2.out _).mono ?_
  rintro e w1 ⟨rfl, hb⟩
  have HX1 := Lib.hid (box1 hb)
  clear hb
  have a3 := HX1.out.2.at_ 3 _ rfl
  have a4 := HX1.out.2.at_ 4 _ rfl
  go_wp2_with fail
  refine (depS_spec _ _ H3.out _).mono ?_
  rintro e w' ⟨rfl, rfl⟩
  go_wp2_with fail
  refine (l1In_v _ _ _ _ H4.out _).mono ?_
  rintro e w' ⟨rfl, rfl⟩
  go_wp2_with fail
  go_ret
  exact ⟨ret_bool HR.out.symm, HX1.out.1⟩
/-! ### Rows -/
theorem sds_long {L : List SD} (h : ¬ L.length ≤ 12) : sdsB L = false := by unfold sdsB; rw [decide_eq_false h]; rfl
theorem sds_bad {L : List SD} {k : Nat} (h : k < L.length) (hb : sstepB L k = false) : sdsB L = false := by unfold sdsB; rw [sgoodK_bad h hb, Bool.and_false]
theorem sds_fine {L : List SD} (h : L.length ≤ 12) (hb : sgoodK L L.length = true) : sdsB L = true := by unfold sdsB; rw [hb, decide_eq_true h]; rfl
theorem step_invalid {L : List SD} {k : Nat} {v : SD} (h : L[k]? = some v) (hb : sdB v = false) : sstepB L k = false := by unfold sstepB; rw [sdAt_at h, hb]; rfl
theorem step_order {L : List SD} {k : Nat} {v v' : SD} (h : L[k + 1]? = some v) (h' : L[k]? = some v') (hb : ¬ v'.id < v.id) : sstepB L (k + 1) = false := by
  unfold sstepB; rw [sdAt_at h, Nat.add_sub_cancel, sdAt_at h', decide_eq_false hb]; simp
theorem step_fine0 {L : List SD} {v : SD} (h : L[0]? = some v) (hb : sdB v = true) : sstepB L 0 = true := by unfold sstepB; rw [sdAt_at h, hb]; rfl
theorem step_fine {L : List SD} {k : Nat} {v v' : SD} (h : L[k + 1]? = some v) (h' : L[k]? = some v') (hb : sdB v = true) (ho : v'.id < v.id) : sstepB L (k + 1) = true := by
  unfold sstepB; rw [sdAt_at h, Nat.add_sub_cancel, sdAt_at h', hb, decide_eq_true ho]; simp
set_option maxRecDepth 20000 in
set_option maxHeartbeats 3200000 in
theorem sds_impl (A : Option Addr) (n c : Nat) (L : List SD) (w : World) (hs : Sds w w.heap.size A n L) (hm : n ≤ maxLen) :
    Calls Try.prog 124 #[.slice A n c] w fun e w' => e = .returned (.bool (sdsB L)) ∧ Below w.heap.size w w' := by
  obtain rfl := hs.1
  have HS := Lib.hid hs
  clear hs
  unfold maxLen at hm
  by_cases h12 : (12 : Int) < L.length
  · have HR := Lib.hid (sds_long (L := L) (by omega))
    go_enter Try.func124, Try.ntmps124
    go_wp2_with fail
    go_ret
    exact ⟨ret_bool HR.out.symm, Below.refl _ _⟩
  go_enter Try.func124, Try.ntmps124
  go_wp2_with fail
  go_loopw [10] (fun i wr => ∃ k : Nat, k ≤ L.length ∧ i = .int .i64 k ∧ Hid (sgoodK L k = true) ∧ Hid (Below w.heap.size w wr)) (fun i _ => L.length - (intOf i).toNat)
  case atStart => exact ⟨0, Nat.zero_le _, rfl, by simp [Hid, sgoodK], Lib.hid (Below.refl _ _)⟩
  case round =>
    obtain ⟨k, hk, rfl, hA, hB⟩ := hrel
    by_cases hlt : k < L.length
    · obtain ⟨b, o, v, rfl, hbl, hL, c0, c1, c2, c3, c4⟩ := (sds_at HS.out hB.out).2 k hlt
      have HK := Lib.hid hL
      obtain ⟨W0, hW0⟩ : ∃ W0, W0 = wr.alloc (.cells #[.int .i64 v.id, .int .i64 v.x, .int .i64 v.y, .int .i64 v.dep, .int .i64 v.dbt] 75) := ⟨_, rfl⟩
      have HW : Hid (Below wr.heap.size wr W0 ∧ Has W0 wr.heap.size [.int .i64 v.id, .int .i64 v.x, .int .i64 v.y, .int .i64 v.dep, .int .i64 v.dbt]) := by rw [hW0]; exact box1 (Below.refl _ _)
      have HB0 := Lib.hid (bthen hB.out HW.out.1 hB.out.size)
      have a0 := HW.out.2.at_ 0 _ rfl
      have a1 := HW.out.2.at_ 1 _ rfl
      have a2 := HW.out.2.at_ 2 _ rfl
      have a3 := HW.out.2.at_ 3 _ rfl
      have a4 := HW.out.2.at_ 4 _ rfl
      have HE := Lib.hid hW0
      clear hW0 hL
      go_wp2_with fail
      rw [← HE.out]
      clear c0 c1 c2 c3 c4
      rcases hv : sdB v with _ | _
      · have HV := Lib.hid hv
        have HR := Lib.hid (sds_bad hlt (step_invalid HK.out hv))
        clear hv
        have lc0 := lcell (a0)
        have lc1 := lcell (a1)
        have lc2 := lcell (a2)
        have lc3 := lcell (a3)
        have lc4 := lcell (a4)
        refine region_later (W := W0) (by kernel_rfl) (by kernel_rfl) (Below.refl _ _) ?_
        repeat (go_big_quiet_step (((go_at_call 169; exact later_call (sound_impl v _ HV.out _)))))
        refine wpQuiet_nil ?_
        intro W1 hW1
        have HL : Hid (Below W0.heap.size W0 W1) := by obtain ⟨x, rfl⟩ := hW1; exact Lib.hid x.below
        clear hW1 lc0 lc1 lc2 lc3 lc4
        have HT := Lib.hid (bthen HB0.out HL.out HB0.out.size)
        go_wp2_with fail
        go_ret
        exact ⟨ret_bool HR.out.symm, HT.out⟩
      have HV := Lib.hid hv
      clear hv
      rcases k with _ | j
      · have HR : Hid (sgoodK L (0 + 1) = true) := by unfold Hid; rw [sgoodK_succ, hA.out, step_fine0 HK.out HV.out]; rfl
        have lc0 := lcell (a0)
        have lc1 := lcell (a1)
        have lc2 := lcell (a2)
        have lc3 := lcell (a3)
        have lc4 := lcell (a4)
        refine region_later (W := W0) (by kernel_rfl) (by kernel_rfl) (Below.refl _ _) ?_
        repeat (go_big_quiet_step (((go_at_call 169; exact later_call (sound_impl v _ HV.out _)))))
        refine wpQuiet_nil ?_
        intro W1 hW1
        have HL : Hid (Below W0.heap.size W0 W1) := by obtain ⟨x, rfl⟩ := hW1; exact Lib.hid x.below
        clear hW1 lc0 lc1 lc2 lc3 lc4
        have HT := Lib.hid (bthen HB0.out HL.out HB0.out.size)
        go_wp2_with fail
        go_roundw
        case rel => exact ⟨1, by omega, by go_num, HR, HT⟩
        case measure => simp [intOf]; omega
      · obtain ⟨b', o', v', hA', hb', hL', d0, d1, d2, d3, d4⟩ := (sds_at HS.out hB.out).2 j (by omega)
        obtain ⟨rfl, rfl⟩ : b = b' ∧ o = o' := by injection hA' with h; injection h with h h'; exact ⟨h, h'⟩
        have e0 := cell_next HW.out.1 d0
        have HK' := Lib.hid hL'
        clear hA' hL' d1 d2 d3 d4
        by_cases hx : v.id ≤ v'.id
        · have HR := Lib.hid (sds_bad hlt (step_order HK.out HK'.out (by omega)))
          have hd : decide (v.id ≤ v'.id) = true := decide_eq_true hx
          have lc0 := lcell (a0)
          have lc1 := lcell (a1)
          have lc2 := lcell (a2)
          have lc3 := lcell (a3)
          have lc4 := lcell (a4)
          have lc5 := lcell (e0)
          refine region_later (W := W0) (by kernel_rfl) (by kernel_rfl) (Below.refl _ _) ?_
          repeat (go_big_quiet_step (((go_at_call 169; exact later_call (sound_impl v _ HV.out _)))))
          refine wpQuiet_nil ?_
          intro W1 hW1
          have HL : Hid (Below W0.heap.size W0 W1) := by obtain ⟨x, rfl⟩ := hW1; exact Lib.hid x.below
          clear hW1 lc0 lc1 lc2 lc3 lc4 lc5
          have HT := Lib.hid (bthen HB0.out HL.out HB0.out.size)
          go_wp2_with fail
          go_ret
          exact ⟨ret_bool HR.out.symm, HT.out⟩
        have hd : decide (v.id ≤ v'.id) = false := decide_eq_false hx
        have HR : Hid (sgoodK L (j + 1 + 1) = true) := by unfold Hid; rw [sgoodK_succ, hA.out, step_fine HK.out HK'.out HV.out (by omega)]; rfl
        have lc0 := lcell (a0)
        have lc1 := lcell (a1)
        have lc2 := lcell (a2)
        have lc3 := lcell (a3)
        have lc4 := lcell (a4)
        have lc5 := lcell (e0)
        refine region_later (W := W0) (by kernel_rfl) (by kernel_rfl) (Below.refl _ _) ?_
        repeat (go_big_quiet_step (((go_at_call 169; exact later_call (sound_impl v _ HV.out _)))))
        refine wpQuiet_nil ?_
        intro W1 hW1
        have HL : Hid (Below W0.heap.size W0 W1) := by obtain ⟨x, rfl⟩ := hW1; exact Lib.hid x.below
        clear hW1 lc0 lc1 lc2 lc3 lc4 lc5
        have HT := Lib.hid (bthen HB0.out HL.out HB0.out.size)
        go_wp2_with fail
        go_roundw
        case rel => exact ⟨j + 1 + 1, by omega, by go_num, HR, HT⟩
        case measure => simp [intOf]; omega
    · obtain rfl : k = L.length := by omega
      have HR := Lib.hid (sds_fine (by omega) hA.out)
      go_wp2_with fail
      go_ret
      exact ⟨ret_bool HR.out.symm, hB.out⟩
set_option maxRecDepth 20000 in
set_option maxHeartbeats 3200000 in
theorem good_spec (A : Option Addr) (n c : Nat) (L : List SD) (w : World) (hs : Sds w w.heap.size A n L) (hm : n ≤ maxLen) :
    Calls Try.prog 130 #[.slice A n c] w fun e w' => e = .returned (.bool (sdsB L)) ∧ Below w.heap.size w w' := by
  obtain rfl := hs.1
  have HS := Lib.hid hs
  clear hs
  unfold maxLen at hm
  go_enter Try.func130, Try.ntmps130
  go_wp2_with fail
  go_loopw [3] (fun i wr => ∃ k : Nat, k ≤ L.length ∧ i = .int .i64 k ∧ Hid (sgoodK L k = true) ∧ Hid (Below w.heap.size w wr)) (fun i _ => L.length - (intOf i).toNat)
  case atStart => exact ⟨0, Nat.zero_le _, rfl, by simp [Hid, sgoodK], Lib.hid (Below.refl _ _)⟩
  case round =>
    obtain ⟨k, hk, rfl, hA, hB⟩ := hrel
    by_cases hlt : k < L.length
    · obtain ⟨b, o, v, rfl, hbl, hL, c0, c1, c2, c3, c4⟩ := (sds_at HS.out hB.out).2 k hlt
      have HK := Lib.hid hL
      obtain ⟨W0, rfl⟩ : ∃ W : World, W = wr := ⟨_, rfl⟩
      have HB0 := Lib.hid hB.out
      clear hL
      go_wp2_with fail
      rcases hv : sdB v with _ | _
      · have HV := Lib.hid hv
        have HR := Lib.hid (sds_bad hlt (step_invalid HK.out hv))
        clear hv
        have lc0 := lcell (c0)
        have lc1 := lcell (c1)
        have lc2 := lcell (c2)
        have lc3 := lcell (c3)
        have lc4 := lcell (c4)
        refine region_later (W := W0) (by kernel_rfl) (by kernel_rfl) (Below.refl _ _) ?_
        repeat (go_big_quiet_step (((go_at_call 170; exact later_call (one_spec v _ HV.out _)))))
        refine wpQuiet_nil ?_
        intro W1 hW1
        have HL : Hid (Below W0.heap.size W0 W1) := by obtain ⟨x, rfl⟩ := hW1; exact Lib.hid x.below
        clear hW1 lc0 lc1 lc2 lc3 lc4
        have HT := Lib.hid (bthen HB0.out HL.out HB0.out.size)
        go_wp2_with fail
        go_ret
        exact ⟨ret_bool HR.out.symm, HT.out⟩
      have HV := Lib.hid hv
      clear hv
      rcases k with _ | j
      · have HR : Hid (sgoodK L (0 + 1) = true) := by unfold Hid; rw [sgoodK_succ, hA.out, step_fine0 HK.out HV.out]; rfl
        simp only [Nat.zero_mul, Nat.add_zero] at c0 c1 c2 c3 c4
        have lc0 := lcell (c0)
        have lc1 := lcell (c1)
        have lc2 := lcell (c2)
        have lc3 := lcell (c3)
        have lc4 := lcell (c4)
        refine region_later (W := W0) (by kernel_rfl) (by kernel_rfl) (Below.refl _ _) ?_
        repeat (go_big_quiet_step (((go_at_call 170; exact later_call (one_spec v _ HV.out _)))))
        refine wpQuiet_nil ?_
        intro W1 hW1
        have HL : Hid (Below W0.heap.size W0 W1) := by obtain ⟨x, rfl⟩ := hW1; exact Lib.hid x.below
        clear hW1 lc0 lc1 lc2 lc3 lc4
        have HT := Lib.hid (bthen HB0.out HL.out HB0.out.size)
        go_wp2_with fail
        go_roundw
        case rel => exact ⟨1, by omega, by go_num, HR, HT⟩
        case measure => simp [intOf]; omega
      · obtain ⟨b', o', v', hA', hb', hL', d0, d1, d2, d3, d4⟩ := (sds_at HS.out hB.out).2 j (by omega)
        obtain ⟨rfl, rfl⟩ : b = b' ∧ o = o' := by injection hA' with h; injection h with h h'; exact ⟨h, h'⟩
        have e0 := d0
        have HK' := Lib.hid hL'
        clear hA' hL' d1 d2 d3 d4
        by_cases hx : v.id ≤ v'.id
        · have HR := Lib.hid (sds_bad hlt (step_order HK.out HK'.out (by omega)))
          have hd : decide (v.id ≤ v'.id) = true := decide_eq_true hx
          have lc0 := lcell (c0)
          have lc1 := lcell (c1)
          have lc2 := lcell (c2)
          have lc3 := lcell (c3)
          have lc4 := lcell (c4)
          have lc5 := lcell (e0)
          refine region_later (W := W0) (by kernel_rfl) (by kernel_rfl) (Below.refl _ _) ?_
          repeat (go_big_quiet_step (((go_at_call 170; exact later_call (one_spec v _ HV.out _)))))
          refine wpQuiet_nil ?_
          intro W1 hW1
          have HL : Hid (Below W0.heap.size W0 W1) := by obtain ⟨x, rfl⟩ := hW1; exact Lib.hid x.below
          clear hW1 lc0 lc1 lc2 lc3 lc4 lc5
          have HT := Lib.hid (bthen HB0.out HL.out HB0.out.size)
          go_wp2_with fail
          go_ret
          exact ⟨ret_bool HR.out.symm, HT.out⟩
        have hd : decide (v.id ≤ v'.id) = false := decide_eq_false hx
        have HR : Hid (sgoodK L (j + 1 + 1) = true) := by unfold Hid; rw [sgoodK_succ, hA.out, step_fine HK.out HK'.out HV.out (by omega)]; rfl
        have lc0 := lcell (c0)
        have lc1 := lcell (c1)
        have lc2 := lcell (c2)
        have lc3 := lcell (c3)
        have lc4 := lcell (c4)
        have lc5 := lcell (e0)
        refine region_later (W := W0) (by kernel_rfl) (by kernel_rfl) (Below.refl _ _) ?_
        repeat (go_big_quiet_step (((go_at_call 170; exact later_call (one_spec v _ HV.out _)))))
        refine wpQuiet_nil ?_
        intro W1 hW1
        have HL : Hid (Below W0.heap.size W0 W1) := by obtain ⟨x, rfl⟩ := hW1; exact Lib.hid x.below
        clear hW1 lc0 lc1 lc2 lc3 lc4 lc5
        have HT := Lib.hid (bthen HB0.out HL.out HB0.out.size)
        go_wp2_with fail
        go_roundw
        case rel => exact ⟨j + 1 + 1, by omega, by go_num, HR, HT⟩
        case measure => simp [intOf]; omega
    · obtain rfl : k = L.length := by omega
      by_cases h12 : L.length ≤ 12
      · have HR := Lib.hid (sds_fine h12 hA.out)
        go_wp2_with fail
        go_ret
        exact ⟨ret_bool ((decide_eq_true (by omega)).trans HR.out.symm), hB.out⟩
      · have HR := Lib.hid (sds_long h12)
        go_wp2_with fail
        go_ret
        exact ⟨ret_bool ((decide_eq_false (by omega)).trans HR.out.symm), hB.out⟩
theorem sds_impl_v (A : Option Addr) (n c : Nat) (L : List SD) (r : Bool) (h : sdsB L = r) (w : World) (hs : Sds w w.heap.size A n L) (hm : n ≤ maxLen) :
    Calls Try.prog 124 #[.slice A n c] w fun e w' => e = .returned (.bool r) ∧ Below w.heap.size w w' := h ▸ sds_impl A n c L w hs hm
theorem good_spec_v (A : Option Addr) (n c : Nat) (L : List SD) (r : Bool) (h : sdsB L = r) (w : World) (hs : Sds w w.heap.size A n L) (hm : n ≤ maxLen) :
    Calls Try.prog 130 #[.slice A n c] w fun e w' => e = .returned (.bool r) ∧ Below w.heap.size w w' := h ▸ good_spec A n c L w hs hm
end Go.Proofs.Ytdmnkmdlochogaa
