/-
  The supported depth: contracts of impl.SupportedDepth, spec.SupportedDepth over this translation. Conditions: stated at each theorem.
-/
import Derived.Test.YtdmnkmdlochogaaQi
namespace Go.Proofs.Ytdmnkmdlochogaa
open Go.RowKit
set_option linter.unusedVariables false

/-- Is a sounding within the radius of a spot? -/
def neP (x y m : Int) (v : SD) : Bool := decide (sqI v.x v.y x y ≤ m)
theorem sq_rad (r : Int) (h1 : 0 ≤ r) (h2 : r ≤ 1000) : 0 ≤ r * r ∧ r * r ≤ 1000000 := mul_bd r (by omega) h2
theorem grid_of {n : Int} (h : inB n 0 1000 = true) : Grid n := inB_yes h
theorem sd_grid {v : SD} (h : sdB v = true) : Grid v.x ∧ Grid v.y := by
  obtain ⟨_, a, b, _⟩ := sdB_parts h
  exact ⟨a, b⟩
set_option maxHeartbeats 1600000 in
theorem clo_near (x y r m : Int) (p q : Nat) (v : SD) (hv : sdB v = true) (hm : r * r = m) (hx : Grid x) (hy : Grid y) (hr : Grid r) (w : World) (h0 : w.cell? ⟨p, 0, none⟩ = some (.int .i64 x)) (h1 : w.cell? ⟨p, 1, none⟩ = some (.int .i64 y)) (h2 : w.cell? ⟨q, 0, none⟩ = some (.int .i64 r)) :
    Calls Try.prog 127 #[.agg #[.int .i64 v.id, .int .i64 v.x, .int .i64 v.y, .int .i64 v.dep, .int .i64 v.dbt], .pointer (some ⟨p, 0, none⟩), .pointer (some ⟨q, 0, none⟩)] w fun e w' => e = .returned (.bool (neP x y m v)) ∧ Below w.heap.size w w' := by
  have HV := Lib.hid (sd_grid hv)
  have HX := Lib.hid hx
  have HY := Lib.hid hy
  have hmb := sq_rad r hr.1 hr.2
  rw [hm] at hmb
  have hw : IntKind.i64.wrap (r * r) = m := by rw [hm]; exact IntWalk.i64_in _ (by omega)
  obtain ⟨W0, hW0⟩ : ∃ W0, W0 = w.alloc (.cells #[.int .i64 v.id, .int .i64 v.x, .int .i64 v.y, .int .i64 v.dep, .int .i64 v.dbt] 75) := ⟨_, rfl⟩
  have HW : Hid (Below w.heap.size w W0 ∧ Has W0 w.heap.size [.int .i64 v.id, .int .i64 v.x, .int .i64 v.y, .int .i64 v.dep, .int .i64 v.dbt]) := by rw [hW0]; exact box1 (Below.refl _ _)
  have HE := Lib.hid hW0
  have e0 := cell_next HW.out.1 h0
  have e1 := cell_next HW.out.1 h1
  have e2 := cell_next HW.out.1 h2
  have a1 := HW.out.2.at_ 1 _ rfl
  have a2 := HW.out.2.at_ 2 _ rfl
  have HQ : Hid (decide (sqI v.x v.y x y ≤ m) = neP x y m v) := Lib.hid rfl
  clear hW0 h0 h1 h2 hv hm hx hy hr
  go_enter Try.func127, Try.ntmps127
  go_wp2_with fail
  rw [← HE.out]
  have lc0 := lcell (a1)
  have lc1 := lcell (a2)
  have lc2 := lcell (e0)
  have lc3 := lcell (e1)
  have lc4 := lcell (e2)
  refine region_later (W := W0) (by kernel_rfl) (by kernel_rfl) (Below.refl _ _) ?_
  repeat (go_big_quiet_step (((go_at_call 128; exact later_call (sq_impl v.x v.y x y HV.out.1 HV.out.2 HX.out HY.out _)))))
  refine wpQuiet_nil ?_
  intro W1 hW1
  have HL : Hid (Below W0.heap.size W0 W1) := by obtain ⟨x, rfl⟩ := hW1; exact Lib.hid x.below
  clear hW1 lc0 lc1 lc2 lc3 lc4
  have HT := Lib.hid (bthen HW.out.1 HL.out HW.out.1.size)
  clear a1 a2 e0 e1 e2
  rw [HQ.out]
  go_wp2_with fail
  go_ret
  exact ⟨rfl, HT.out⟩
def sdG (L : List SD) (x y r : Int) : Bool := sdsB L && spS x y && inB r 0 1000
def sdV (L : List SD) (x y r : Int) : Int := if sdG L x y r then (suK L (neP x y (r * r)) L.length).1 else 0
def sdK (L : List SD) (x y r : Int) : Bool := sdG L x y r && (suK L (neP x y (r * r)) L.length).2
theorem sup_no {L : List SD} {x y r : Int} (h : sdG L x y r = false) : sdV L x y r = 0 ∧ sdK L x y r = false := ⟨by unfold sdV; rw [h]; rfl, by unfold sdK; rw [h]; rfl⟩
theorem sup_1 {L : List SD} {x y r : Int} (h : sdsB L = false) : sdV L x y r = 0 ∧ sdK L x y r = false := sup_no (by unfold sdG; rw [h]; rfl)
theorem sup_2 {L : List SD} {x y r : Int} (h : spS x y = false) : sdV L x y r = 0 ∧ sdK L x y r = false := sup_no (by unfold sdG; rw [h]; simp)
theorem sup_3 {L : List SD} {x y r : Int} (h : inB r 0 1000 = false) : sdV L x y r = 0 ∧ sdK L x y r = false := sup_no (by unfold sdG; rw [h]; simp)
theorem sup_yes {L : List SD} {x y r : Int} (h1 : sdsB L = true) (h2 : spS x y = true) (h3 : inB r 0 1000 = true) : sdV L x y r = (suK L (neP x y (r * r)) L.length).1 ∧ sdK L x y r = (suK L (neP x y (r * r)) L.length).2 := by
  have h : sdG L x y r = true := by unfold sdG; rw [h1, h2, h3]; rfl
  exact ⟨by unfold sdV; rw [h, if_pos rfl], by unfold sdK; rw [h]; rfl⟩
set_option maxRecDepth 20000 in
set_option maxHeartbeats 3200000 in
theorem sup_impl (A : Option Addr) (n cc : Nat) (L : List SD) (x y r : Int) (w : World) (hs : Sds w w.heap.size A n L) (hm : n ≤ maxLen) :
    Calls Try.prog 61 #[.slice A n cc, .agg #[.int .i64 x, .int .i64 y], .int .i64 r] w (NbPost (sdV L x y r) (sdK L x y r) w) := by
  obtain rfl := hs.1
  have HX := Lib.hid (box2 (cs := #[.int .i64 x, .int .i64 y]) (ds := #[.int .i64 r]) (T := 69) (T' := 3) (Below.refl _ _) (w := w))
  have HS := Lib.hid (sds_at hs HX.out.1)
  clear hs
  rcases ha : sdsB L with _ | _
  · have HA := Lib.hid ha
    clear ha
    go_enter Try.func61, Try.ntmps61
    go_wp2_with fail
    refine (sds_impl_v _ _ _ L _ HA.out _ HS.out hm).mono ?_
    rintro e w1 ⟨rfl, hb⟩
    have HB := Lib.hid (bthen HX.out.1 hb HX.out.1.size)
    clear hb
    go_wp2_with fail
    go_ret2
    exact nb_no (sup_1 HA.out) HB.out
  have HA := Lib.hid ha
  have HG := Lib.hid (good8_of ha)
  clear ha
  obtain ⟨k, hk⟩ : ∃ k, spS x y = k := ⟨_, rfl⟩
  have HK := Lib.hid hk
  obtain ⟨j, hj⟩ : ∃ j, inB r 0 1000 = j := ⟨_, rfl⟩
  have HJ := Lib.hid hj
  clear hk hj
  go_enter Try.func61, Try.ntmps61
  go_wp2_with fail
  refine (sds_impl_v _ _ _ L _ HA.out _ HS.out hm).mono ?_
  rintro e W1 ⟨rfl, hb⟩
  have HB1 := Lib.hid (bthen HX.out.1 hb HX.out.1.size)
  have HS1 := Lib.hid (sds_at HS.out hb)
  have HX1 := Lib.hid (HX.out.2.1.next hb)
  have HY1 := Lib.hid (HX.out.2.2.next hb)
  clear hb
  have e0 := HX1.out.at_ 0 _ rfl
  have e1 := HX1.out.at_ 1 _ rfl
  go_wp2_with fail
  refine (spotS_impl x y _ HK.out _).mono ?_
  rintro e W2 ⟨rfl, hb⟩
  have HB2 := Lib.hid (bthen HB1.out hb HB1.out.size)
  have HS2 := Lib.hid (sds_at HS1.out hb)
  have HX2 := Lib.hid (HX1.out.next hb)
  have HY2 := Lib.hid (HY1.out.next hb)
  clear hb e0 e1
  rcases k with _ | _
  · go_wp2_with fail
    go_ret2
    exact nb_no (sup_2 HK.out) HB2.out
  have e2 := HY2.out.at_ 0 _ rfl
  go_wp2_with fail
  refine (within_v r _ _ _ HJ.out _).mono ?_
  rintro e w' ⟨rfl, rfl⟩
  clear e2
  rcases j with _ | _
  · go_wp2_with fail
    go_ret2
    exact nb_no (sup_3 HJ.out) HB2.out
  go_wp2_with fail
  refine (where_near (neP x y (r * r)) (.pointer (some ⟨w.heap.size, 0, none⟩)) (.pointer (some ⟨w.heap.size + 1, 0, none⟩)) _ _ _ L _ HS2.out HG.out (fun W v hW hv => clo_near x y r (r * r) w.heap.size (w.heap.size + 1) v hv rfl (spS_yes HK.out).1 (spS_yes HK.out).2 (inB_yes HJ.out) W (cell_next hW (HX2.out.at_ 0 _ rfl)) (cell_next hW (HX2.out.at_ 1 _ rfl)) (cell_next hW (HY2.out.at_ 0 _ rfl)))).mono ?_
  rintro e W3 ⟨u, hu, rfl, hb⟩
  have HB3 := Lib.hid (bthen HB2.out hb HB2.out.size)
  have HB4 := Lib.hid (HB3.out.alloc HB3.out.size (.cells #[.int .i64 u.id, .int .i64 u.x, .int .i64 u.y, .int .i64 u.dep, .int .i64 u.dbt] 75))
  have HR := Lib.hid (sup_yes HA.out HK.out HJ.out)
  rw [su_sh, ← hu.out] at HR
  have HU : Hid (SmS u) := by
    unfold Hid
    rw [hu.out]
    by_cases hn : shK L (neP x y (r * r)) L.length < 0
    · rw [shU_none hn]; exact sm_zero
    · obtain ⟨j, hj, _, he⟩ := shU_some hn
      rw [he]
      exact sm_of (HG.out.one j hj)
  clear hb
  obtain ⟨K, hK⟩ : ∃ K, decide (0 ≤ shK L (neP x y (r * r)) L.length) = K := ⟨_, rfl⟩
  rw [hK] at HR ⊢
  clear hK hu
  go_wp2_with fail
  refine (lowS_impl u HU.out _).mono ?_
  rintro e w4 ⟨rfl, hb⟩
  have HB5 := Lib.hid (bthen HB4.out hb HB4.out.size)
  clear hb
  go_wp2_with fail
  go_ret2
  exact nb_is HR.out HB5.out
set_option maxRecDepth 20000 in
set_option maxHeartbeats 3200000 in
theorem sup_spec (A : Option Addr) (n cc : Nat) (L : List SD) (x y r : Int) (w : World) (hs : Sds w w.heap.size A n L) (hm : n ≤ maxLen) :
    Calls Try.prog 62 #[.slice A n cc, .agg #[.int .i64 x, .int .i64 y], .int .i64 r] w (NbPost (sdV L x y r) (sdK L x y r) w) := by
  obtain rfl := hs.1
  have HX := Lib.hid (box1 (cs := #[.int .i64 x, .int .i64 y]) (T := 69) (Below.refl _ _) (w := w))
  have HS := Lib.hid (sds_at hs HX.out.1)
  clear hs
  rcases ha : sdsB L with _ | _
  · have HA := Lib.hid ha
    clear ha
    go_enter Try.func62, Try.ntmps62
    go_wp2_with fail
    refine (good_spec_v _ _ _ L _ HA.out _ HS.out hm).mono ?_
    rintro e w1 ⟨rfl, hb⟩
    have HB := Lib.hid (bthen HX.out.1 hb HX.out.1.size)
    clear hb
    go_wp2_with fail
    go_ret2
    exact nb_no (sup_1 HA.out) HB.out
  have HA := Lib.hid ha
  have HG := Lib.hid (good8_of ha)
  have h12 := (good8_of ha).max
  clear ha
  obtain ⟨k, hk⟩ : ∃ k, spS x y = k := ⟨_, rfl⟩
  have HK := Lib.hid hk
  obtain ⟨j, hj⟩ : ∃ j, inB r 0 1000 = j := ⟨_, rfl⟩
  have HJ := Lib.hid hj
  clear hk hj
  go_enter Try.func62, Try.ntmps62
  go_wp2_with fail
  refine (good_spec_v _ _ _ L _ HA.out _ HS.out hm).mono ?_
  rintro e W1 ⟨rfl, hb⟩
  have HB1 := Lib.hid (bthen HX.out.1 hb HX.out.1.size)
  have HS1 := Lib.hid (sds_at HS.out hb)
  have HX1 := Lib.hid (HX.out.2.next hb)
  clear hb
  have e0 := HX1.out.at_ 0 _ rfl
  have e1 := HX1.out.at_ 1 _ rfl
  go_wp2_with fail
  refine (spotS_spec x y _ HK.out _).mono ?_
  rintro e W2 ⟨rfl, hb⟩
  have HB2 := Lib.hid (bthen HB1.out hb HB1.out.size)
  have HS2 := Lib.hid (sds_at HS1.out hb)
  have HX2 := Lib.hid (HX1.out.next hb)
  clear hb e0 e1
  rcases k with _ | _
  · go_wp2_with fail
    go_ret2
    exact nb_no (sup_2 HK.out) HB2.out
  go_wp2_with fail
  refine (gridS_spec r _ HJ.out _).mono ?_
  rintro e w' ⟨rfl, rfl⟩
  rcases j with _ | _
  · go_wp2_with fail
    go_ret2
    exact nb_no (sup_3 HJ.out) HB2.out
  have HR := Lib.hid (sup_yes HA.out HK.out HJ.out)
  obtain ⟨m, hmm⟩ : ∃ m, r * r = m := ⟨_, rfl⟩
  have hmb := sq_rad r (inB_yes HJ.out).1 (inB_yes HJ.out).2
  rw [hmm] at HR hmb
  have hw : IntKind.i64.wrap (r * r) = m := by rw [hmm]; exact IntWalk.i64_in _ (by omega)
  have HGX := Lib.hid (And.intro (grid_of (n := x) (inB_mk (spS_yes HK.out).1.1 (spS_yes HK.out).1.2)) (grid_of (n := y) (inB_mk (spS_yes HK.out).2.1 (spS_yes HK.out).2.2)))
  clear hmm
  go_wp2_with fail
  go_loopw [8, 9, 10] (fun q s i wr => ∃ (k : Nat) (l : Int) (t : Bool), k ≤ L.length ∧ i = .int .i64 k ∧ q = .int .i64 l ∧ s = .bool t ∧ Hid ((l, t) = suK L (neP x y m) k) ∧ Hid (Below W2.heap.size W2 wr)) (fun _ _ i _ => L.length - (intOf i).toNat)
  case atStart => exact ⟨0, 0, false, Nat.zero_le _, rfl, rfl, rfl, Lib.hid rfl, Lib.hid (Below.refl _ _)⟩
  case round =>
    obtain ⟨k, l, t, hk, rfl, rfl, rfl, hM, hB⟩ := hrel
    obtain ⟨W0, rfl⟩ : ∃ W : World, W = wr := ⟨_, rfl⟩
    by_cases hlt : k < L.length
    · obtain ⟨b', o', v, rfl, hbl, hL, c0, c1, c2, c3, c4⟩ := (sds_at HS2.out hB.out).2 k hlt
      have HKV := Lib.hid (sdAt_at hL)
      have HV := Lib.hid (sm_at HG.out hL)
      have hv1 := HG.out.one k hlt
      rw [sdAt_at hL] at hv1
      have HGV := Lib.hid (sd_grid hv1)
      have HX3 := Lib.hid (HX2.out.next hB.out)
      have e0 := HX3.out.at_ 0 _ rfl
      have e1 := HX3.out.at_ 1 _ rfl
      clear hL hv1
      obtain ⟨z, HZ⟩ : ∃ z, Hid (sqI v.x v.y x y = z) := ⟨_, Lib.hid rfl⟩
      have HSQ : Hid (∀ W : World, Calls Try.prog 133 #[.agg #[.int .i64 v.x, .int .i64 v.y], .agg #[.int .i64 x, .int .i64 y]] W fun e w' => e = .returned (.int .i64 z) ∧ Below W.heap.size W w') := Lib.hid fun W => HZ.out ▸ sq_spec v.x v.y x y HGV.out.1 HGV.out.2 HGX.out.1 HGX.out.2 W
      by_cases hz : z ≤ m
      rotate_left
      · have HN : Hid ((l, t) = suK L (neP x y m) (k + 1)) := by
          unfold Hid
          rw [suK, show neP x y m (sdAt L k) = false by unfold neP; rw [HKV.out, HZ.out]; exact decide_eq_false hz]
          exact hM.out
        have hd : decide (m < z) = true := decide_eq_true (by omega)
        clear hz
        go_wp2_with fail
        have lc0 := lcell (c0)
        have lc1 := lcell (c1)
        have lc2 := lcell (c2)
        have lc3 := lcell (c3)
        have lc4 := lcell (c4)
        have lc5 := lcell (e0)
        have lc6 := lcell (e1)
        refine region_later (W := W0) (by kernel_rfl) (by kernel_rfl) (Below.refl _ _) ?_
        repeat (go_big_quiet_step (((go_at_call 133; exact later_call (HSQ.out _)))))
        refine wpQuiet_nil ?_
        intro W1 hW1
        have HL : Hid (Below W0.heap.size W0 W1) := by obtain ⟨x, rfl⟩ := hW1; exact Lib.hid x.below
        clear hW1 lc0 lc1 lc2 lc3 lc4 lc5 lc6
        have HB2' := Lib.hid (bthen hB.out HL.out hB.out.size)
        clear c0 c1 c2 c3 c4 e0 e1
        go_wp2_with fail
        go_roundw
        case rel => exact ⟨k + 1, l, t, by omega, by go_num, rfl, rfl, HN, HB2'⟩
        case measure => simp [intOf]; omega
      have HP : Hid (neP x y m (sdAt L k) = true) := by unfold Hid neP; rw [HKV.out, HZ.out]; exact decide_eq_true hz
      have hd : decide (m < z) = false := decide_eq_false (by omega)
      clear hz
      by_cases hc : (!t || decide (lowS v < l)) = true
      · have HN : Hid ((lowS v, true) = suK L (neP x y m) (k + 1)) := by
          unfold Hid
          rw [suK, HP.out, ← hM.out, HKV.out]
          simp only [Bool.true_and]
          rw [if_pos hc]
        rcases t with _ | _
        · clear hc
          go_wp2_with fail
          have lc0 := lcell (c0)
          have lc1 := lcell (c1)
          have lc2 := lcell (c2)
          have lc3 := lcell (c3)
          have lc4 := lcell (c4)
          have lc5 := lcell (e0)
          have lc6 := lcell (e1)
          refine region_later (W := W0) (by kernel_rfl) (by kernel_rfl) (Below.refl _ _) ?_
          repeat (go_big_quiet_step (((go_at_call 133; exact later_call (HSQ.out _)))))
          refine wpQuiet_nil ?_
          intro W4 hW1
          have HL : Hid (Below W0.heap.size W0 W4) := by obtain ⟨x, rfl⟩ := hW1; exact Lib.hid x.below
          clear hW1 lc0 lc1 lc2 lc3 lc4 lc5 lc6
          have HB2' := Lib.hid (bthen hB.out HL.out hB.out.size)
          have g0 := cell_next HL.out c0
          have g1 := cell_next HL.out c1
          have g2 := cell_next HL.out c2
          have g3 := cell_next HL.out c3
          have g4 := cell_next HL.out c4
          clear c0 c1 c2 c3 c4 e0 e1
          go_wp2_with fail
          refine (lowS_spec v HV.out _).mono ?_
          rintro e w5 ⟨rfl, hb⟩
          have HB3 := Lib.hid (bthen HB2'.out hb HB2'.out.size)
          clear hb g0 g1 g2 g3 g4
          go_wp2_with fail
          go_roundw
          case rel => exact ⟨k + 1, lowS v, true, by omega, by go_num, rfl, rfl, HN, HB3⟩
          case measure => simp [intOf]; omega
        · have hl : decide (lowS v < l) = true := by simpa using hc
          clear hc
          go_wp2_with fail
          have lc0 := lcell (c0)
          have lc1 := lcell (c1)
          have lc2 := lcell (c2)
          have lc3 := lcell (c3)
          have lc4 := lcell (c4)
          have lc5 := lcell (e0)
          have lc6 := lcell (e1)
          refine region_later (W := W0) (by kernel_rfl) (by kernel_rfl) (Below.refl _ _) ?_
          repeat (go_big_quiet_step (((go_at_call 133; exact later_call (HSQ.out _)))))
          refine wpQuiet_nil ?_
          intro W4 hW1
          have HL : Hid (Below W0.heap.size W0 W4) := by obtain ⟨x, rfl⟩ := hW1; exact Lib.hid x.below
          clear hW1 lc0 lc1 lc2 lc3 lc4 lc5 lc6
          have HB2' := Lib.hid (bthen hB.out HL.out hB.out.size)
          have g0 := cell_next HL.out c0
          have g1 := cell_next HL.out c1
          have g2 := cell_next HL.out c2
          have g3 := cell_next HL.out c3
          have g4 := cell_next HL.out c4
          clear c0 c1 c2 c3 c4 e0 e1
          go_wp2_with fail
          refine (lowS_spec v HV.out _).mono ?_
          rintro e W5 ⟨rfl, hb⟩
          have HB3 := Lib.hid (bthen HB2'.out hb HB2'.out.size)
          have i0 := cell_next hb g0
          have i1 := cell_next hb g1
          have i2 := cell_next hb g2
          have i3 := cell_next hb g3
          have i4 := cell_next hb g4
          clear hb g0 g1 g2 g3 g4
          go_wp2_with fail
          refine (lowS_spec v HV.out _).mono ?_
          rintro e w6 ⟨rfl, hb⟩
          have HB4 := Lib.hid (bthen HB3.out hb HB3.out.size)
          clear hb i0 i1 i2 i3 i4
          go_wp2_with fail
          go_roundw
          case rel => exact ⟨k + 1, lowS v, true, by omega, by go_num, rfl, rfl, HN, HB4⟩
          case measure => simp [intOf]; omega
      · have HN : Hid ((l, t) = suK L (neP x y m) (k + 1)) := by
          unfold Hid
          rw [suK, HP.out, ← hM.out, HKV.out]
          simp only [Bool.true_and]
          rw [if_neg hc]
        obtain rfl : t = true := by
          rcases t with _ | _
          · simp at hc
          · rfl
        have hl : decide (lowS v < l) = false := by simpa using hc
        clear hc
        go_wp2_with fail
        have lc0 := lcell (c0)
        have lc1 := lcell (c1)
        have lc2 := lcell (c2)
        have lc3 := lcell (c3)
        have lc4 := lcell (c4)
        have lc5 := lcell (e0)
        have lc6 := lcell (e1)
        refine region_later (W := W0) (by kernel_rfl) (by kernel_rfl) (Below.refl _ _) ?_
        repeat (go_big_quiet_step (((go_at_call 133; exact later_call (HSQ.out _)))))
        refine wpQuiet_nil ?_
        intro W4 hW1
        have HL : Hid (Below W0.heap.size W0 W4) := by obtain ⟨x, rfl⟩ := hW1; exact Lib.hid x.below
        clear hW1 lc0 lc1 lc2 lc3 lc4 lc5 lc6
        have HB2' := Lib.hid (bthen hB.out HL.out hB.out.size)
        have g0 := cell_next HL.out c0
        have g1 := cell_next HL.out c1
        have g2 := cell_next HL.out c2
        have g3 := cell_next HL.out c3
        have g4 := cell_next HL.out c4
        clear c0 c1 c2 c3 c4 e0 e1
        go_wp2_with fail
        refine (lowS_spec v HV.out _).mono ?_
        rintro e w5 ⟨rfl, hb⟩
        have HB3 := Lib.hid (bthen HB2'.out hb HB2'.out.size)
        clear hb g0 g1 g2 g3 g4
        go_wp2_with fail
        go_roundw
        case rel => exact ⟨k + 1, l, true, by omega, by go_num, rfl, rfl, HN, HB3⟩
        case measure => simp [intOf]; omega
    · obtain rfl : k = L.length := by omega
      have HBT := Lib.hid (bthen HB2.out hB.out HB2.out.size)
      rw [← hM.out] at HR
      go_wp2_with fail
      go_ret2
      exact nb_is HR.out HBT.out
end Go.Proofs.Ytdmnkmdlochogaa
