/-
  The shoalest sounding in a box: contracts of impl.ShoalestIn, spec.ShoalestIn over this translation. Conditions: stated at each theorem.
-/
import Derived.Test.YtdmnkmdlochogaaQh
namespace Go.Proofs.Ytdmnkmdlochogaa
open Go.RowKit
set_option linter.unusedVariables false

/-! ### ShoalestIn -/
def inP (a b c d : Int) (v : SD) : Bool := inBoxB a b c d v.x v.y
theorem clo_in (a b c d : Int) (p : Nat) (v : SD) (w : World) (h0 : w.cell? ⟨p, 0, none⟩ = some (.int .i64 a)) (h1 : w.cell? ⟨p, 1, none⟩ = some (.int .i64 b)) (h2 : w.cell? ⟨p, 2, none⟩ = some (.int .i64 c)) (h3 : w.cell? ⟨p, 3, none⟩ = some (.int .i64 d)) :
    Calls Try.prog 137 #[.agg #[.int .i64 v.id, .int .i64 v.x, .int .i64 v.y, .int .i64 v.dep, .int .i64 v.dbt], .pointer (some ⟨p, 0, none⟩)] w fun e w' => e = .returned (.bool (inP a b c d v)) ∧ Below w.heap.size w w' := by
  have hb0 := (Below.refl w.heap.size w).alloc (Nat.le_refl _) (.cells #[.int .i64 v.id, .int .i64 v.x, .int .i64 v.y, .int .i64 v.dep, .int .i64 v.dbt] 75)
  have e0 := cell_next hb0 h0
  have e1 := cell_next hb0 h1
  have e2 := cell_next hb0 h2
  have e3 := cell_next hb0 h3
  clear h0 h1 h2 h3 hb0
  go_enter Try.func137, Try.ntmps137
  go_wp2_with fail
  refine (inBox_impl_v a b c d v.x v.y _ rfl _).mono ?_
  rintro e w1 ⟨rfl, hb⟩
  have HB := Lib.hid (box1 hb).1
  clear hb
  go_wp2_with fail
  go_ret
  exact ⟨rfl, HB.out⟩
def siG (L : List SD) (a b c d : Int) : Bool := sdsB L && boxB a b c d
def siV (L : List SD) (a b c d : Int) : Int := if siG L a b c d then (shU L (inP a b c d) L.length).id else 0
def siK (L : List SD) (a b c d : Int) : Bool := siG L a b c d && decide (0 ≤ shK L (inP a b c d) L.length)
def NbPost (V : Int) (K : Bool) (w : World) (e : Ending) (w' : World) : Prop := e = .returned (.tuple #[.int .i64 V, .bool K]) ∧ Below w.heap.size w w'
theorem nb_no {V : Int} {K : Bool} {w w' : World} (h : V = 0 ∧ K = false) (hb : Below w.heap.size w w') : NbPost V K w (.returned (.tuple #[.int .i64 0, .bool false])) w' := ⟨by rw [h.1, h.2], hb⟩
theorem nb_is {V x : Int} {K y : Bool} {w w' : World} (h : V = x ∧ K = y) (hb : Below w.heap.size w w') : NbPost V K w (.returned (.tuple #[.int .i64 x, .bool y])) w' := ⟨by rw [h.1, h.2], hb⟩
theorem si_no {L : List SD} {a b c d : Int} (h : siG L a b c d = false) : siV L a b c d = 0 ∧ siK L a b c d = false := ⟨by unfold siV; rw [h]; rfl, by unfold siK; rw [h]; rfl⟩
theorem si_1 {L : List SD} {a b c d : Int} (h : sdsB L = false) : siV L a b c d = 0 ∧ siK L a b c d = false := si_no (by unfold siG; rw [h]; rfl)
theorem si_2 {L : List SD} {a b c d : Int} (h : boxB a b c d = false) : siV L a b c d = 0 ∧ siK L a b c d = false := si_no (by unfold siG; rw [h, Bool.and_false])
theorem si_yes {L : List SD} {a b c d : Int} (h1 : sdsB L = true) (h2 : boxB a b c d = true) : siV L a b c d = (shU L (inP a b c d) L.length).id ∧ siK L a b c d = decide (0 ≤ shK L (inP a b c d) L.length) := by
  have h : siG L a b c d = true := by unfold siG; rw [h1, h2]; rfl
  exact ⟨by unfold siV; rw [h, if_pos rfl], by unfold siK; rw [h]; rfl⟩
set_option maxRecDepth 20000 in
set_option maxHeartbeats 3200000 in
theorem shin_impl (A : Option Addr) (n cc : Nat) (L : List SD) (a b c d : Int) (w : World) (hs : Sds w w.heap.size A n L) (hm : n ≤ maxLen) :
    Calls Try.prog 65 #[.slice A n cc, .agg #[.int .i64 a, .int .i64 b, .int .i64 c, .int .i64 d]] w (NbPost (siV L a b c d) (siK L a b c d) w) := by
  obtain rfl := hs.1
  have HX := Lib.hid (box1 (cs := #[.int .i64 a, .int .i64 b, .int .i64 c, .int .i64 d]) (T := 77) (Below.refl _ _) (w := w))
  have HS := Lib.hid (sds_at hs HX.out.1)
  clear hs
  rcases ha : sdsB L with _ | _
  · have HA := Lib.hid ha
    clear ha
    go_enter Try.func65, Try.ntmps65
    go_wp2_with fail
    refine (sds_impl_v _ _ _ L _ HA.out _ HS.out hm).mono ?_
    rintro e w1 ⟨rfl, hb⟩
    have HB := Lib.hid (bthen HX.out.1 hb HX.out.1.size)
    clear hb
    go_wp2_with fail
    go_ret2
    exact nb_no (si_1 HA.out) HB.out
  have HA := Lib.hid ha
  have HG := Lib.hid (good8_of ha)
  clear ha
  obtain ⟨k, hk⟩ : ∃ k, boxB a b c d = k := ⟨_, rfl⟩
  have HK := Lib.hid hk
  clear hk
  go_enter Try.func65, Try.ntmps65
  go_wp2_with fail
  refine (sds_impl_v _ _ _ L _ HA.out _ HS.out hm).mono ?_
  rintro e W1 ⟨rfl, hb⟩
  have HB1 := Lib.hid (bthen HX.out.1 hb HX.out.1.size)
  have HS1 := Lib.hid (sds_at HS.out hb)
  have HX1 := Lib.hid (HX.out.2.next hb)
  clear hb
  have e0 := HX1.out.at_ 0 _ rfl
  have e1 := HX1.out.at_ 1 _ rfl
  have e2 := HX1.out.at_ 2 _ rfl
  have e3 := HX1.out.at_ 3 _ rfl
  go_wp2_with fail
  refine (isBox_impl_w a b c d _ HK.out _).mono ?_
  rintro e W2 ⟨rfl, hb⟩
  have HB2 := Lib.hid (bthen HB1.out hb HB1.out.size)
  have HS2 := Lib.hid (sds_at HS1.out hb)
  have HX2 := Lib.hid (HX1.out.next hb)
  clear hb e0 e1 e2 e3
  rcases k with _ | _
  · go_wp2_with fail
    go_ret2
    exact nb_no (si_2 HK.out) HB2.out
  go_wp2_with fail
  refine (where_in (inP a b c d) (.pointer (some ⟨w.heap.size, 0, none⟩)) _ _ _ L _ HS2.out HG.out (fun W v hW _ => clo_in a b c d w.heap.size v W (cell_next hW (HX2.out.at_ 0 _ rfl)) (cell_next hW (HX2.out.at_ 1 _ rfl)) (cell_next hW (HX2.out.at_ 2 _ rfl)) (cell_next hW (HX2.out.at_ 3 _ rfl)))).mono ?_
  rintro e W3 ⟨u, hu, rfl, hb⟩
  have HB3 := Lib.hid (bthen HB2.out hb HB2.out.size)
  have HB4 := Lib.hid (HB3.out.alloc HB3.out.size (.cells #[.int .i64 u.id, .int .i64 u.x, .int .i64 u.y, .int .i64 u.dep, .int .i64 u.dbt] 75))
  have HR := Lib.hid (si_yes HA.out HK.out)
  rw [← hu.out] at HR
  clear hb
  go_wp2_with fail
  go_ret2
  exact nb_is HR.out HB4.out
set_option maxRecDepth 20000 in
set_option maxHeartbeats 3200000 in
theorem shin_spec (A : Option Addr) (n cc : Nat) (L : List SD) (a b c d : Int) (w : World) (hs : Sds w w.heap.size A n L) (hm : n ≤ maxLen) :
    Calls Try.prog 66 #[.slice A n cc, .agg #[.int .i64 a, .int .i64 b, .int .i64 c, .int .i64 d]] w (NbPost (siV L a b c d) (siK L a b c d) w) := by
  obtain rfl := hs.1
  have HX := Lib.hid (box1 (cs := #[.int .i64 a, .int .i64 b, .int .i64 c, .int .i64 d]) (T := 77) (Below.refl _ _) (w := w))
  have HS := Lib.hid (sds_at hs HX.out.1)
  clear hs
  rcases ha : sdsB L with _ | _
  · have HA := Lib.hid ha
    clear ha
    go_enter Try.func66, Try.ntmps66
    go_wp2_with fail
    refine (good_spec_v _ _ _ L _ HA.out _ HS.out hm).mono ?_
    rintro e w1 ⟨rfl, hb⟩
    have HB := Lib.hid (bthen HX.out.1 hb HX.out.1.size)
    clear hb
    go_wp2_with fail
    go_ret2
    exact nb_no (si_1 HA.out) HB.out
  have HA := Lib.hid ha
  have HG := Lib.hid (good8_of ha)
  have h12 := (good8_of ha).max
  clear ha
  obtain ⟨k, hk⟩ : ∃ k, boxB a b c d = k := ⟨_, rfl⟩
  have HK := Lib.hid hk
  clear hk
  go_enter Try.func66, Try.ntmps66
  go_wp2_with fail
  refine (good_spec_v _ _ _ L _ HA.out _ HS.out hm).mono ?_
  rintro e W1 ⟨rfl, hb⟩
  have HB1 := Lib.hid (bthen HX.out.1 hb HX.out.1.size)
  have HS1 := Lib.hid (sds_at HS.out hb)
  have HX1 := Lib.hid (HX.out.2.next hb)
  clear hb
  have e0 := HX1.out.at_ 0 _ rfl
  have e1 := HX1.out.at_ 1 _ rfl
  have e2 := HX1.out.at_ 2 _ rfl
  have e3 := HX1.out.at_ 3 _ rfl
  go_wp2_with fail
  refine (l2Box_w a b c d _ HK.out _).mono ?_
  rintro e W2 ⟨rfl, hb⟩
  have HB2 := Lib.hid (bthen HB1.out hb HB1.out.size)
  have HS2 := Lib.hid (sds_at HS1.out hb)
  have HX2 := Lib.hid (HX1.out.next hb)
  clear hb e0 e1 e2 e3
  rcases k with _ | _
  · go_wp2_with fail
    go_ret2
    exact nb_no (si_2 HK.out) HB2.out
  have HR := Lib.hid (si_yes HA.out HK.out)
  go_wp2_with fail
  go_loopw [6, 7] (fun q i wr => ∃ (k : Nat) (m : Int), k ≤ L.length ∧ i = .int .i64 k ∧ q = .int .i64 m ∧ Hid (m = shK L (inP a b c d) k) ∧ Hid (Below W2.heap.size W2 wr)) (fun _ i _ => L.length - (intOf i).toNat)
  case atStart => exact ⟨0, -1, Nat.zero_le _, rfl, rfl, Lib.hid rfl, Lib.hid (Below.refl _ _)⟩
  case round =>
    obtain ⟨k, m, hk, rfl, rfl, hM, hB⟩ := hrel
    obtain ⟨W0, rfl⟩ : ∃ W : World, W = wr := ⟨_, rfl⟩
    by_cases hlt : k < L.length
    · obtain ⟨b', o', v, rfl, hbl, hL, c0, c1, c2, c3, c4⟩ := (sds_at HS2.out hB.out).2 k hlt
      have HKV := Lib.hid (sdAt_at hL)
      have HV := Lib.hid (sm_at HG.out hL)
      have HX3 := Lib.hid (HX2.out.next hB.out)
      have e0 := HX3.out.at_ 0 _ rfl
      have e1 := HX3.out.at_ 1 _ rfl
      have e2 := HX3.out.at_ 2 _ rfl
      have e3 := HX3.out.at_ 3 _ rfl
      clear hL
      rcases hp : inBoxB a b c d v.x v.y with _ | _
      · have HP := Lib.hid hp
        have HN : Hid (m = shK L (inP a b c d) (k + 1)) := by unfold Hid; rw [(sh_skip (by unfold inP; rw [HKV.out]; exact hp)).1]; exact hM.out
        clear hp
        go_wp2_with fail
        have lc0 := lcell (c0)
        have lc1 := lcell (c1)
        have lc2 := lcell (c2)
        have lc3 := lcell (c3)
        have lc4 := lcell (c4)
        have lc5 := lcell (e0)
        have lc6 := lcell (e1)
        have lc7 := lcell (e2)
        have lc8 := lcell (e3)
        refine region_later (W := W0) (by kernel_rfl) (by kernel_rfl) (Below.refl _ _) ?_
        repeat (go_big_quiet_step (((go_at_call 140; exact later_call (inBox_spec_v a b c d v.x v.y _ HP.out _)))))
        refine wpQuiet_nil ?_
        intro W1 hW1
        have HL : Hid (Below W0.heap.size W0 W1) := by obtain ⟨x, rfl⟩ := hW1; exact Lib.hid x.below
        clear hW1 lc0 lc1 lc2 lc3 lc4 lc5 lc6 lc7 lc8
        have HB2' := Lib.hid (bthen hB.out HL.out hB.out.size)
        clear c0 c1 c2 c3 c4 e0 e1 e2 e3
        go_wp2_with fail
        go_roundw
        case rel => exact ⟨k + 1, m, by omega, by go_num, rfl, HN, HB2'⟩
        case measure => simp [intOf]; omega
      have HP := Lib.hid hp
      by_cases hn : m < 0
      · have HN : Hid ((k : Int) = shK L (inP a b c d) (k + 1)) := by unfold Hid; rw [(sh_first (by unfold inP; rw [HKV.out]; exact hp) (by rw [← hM.out]; exact hn)).1]
        have hd : decide (m < 0) = true := decide_eq_true hn
        clear hp
        go_wp2_with fail
        have lc0 := lcell (c0)
        have lc1 := lcell (c1)
        have lc2 := lcell (c2)
        have lc3 := lcell (c3)
        have lc4 := lcell (c4)
        have lc5 := lcell (e0)
        have lc6 := lcell (e1)
        have lc7 := lcell (e2)
        have lc8 := lcell (e3)
        refine region_later (W := W0) (by kernel_rfl) (by kernel_rfl) (Below.refl _ _) ?_
        repeat (go_big_quiet_step (((go_at_call 140; exact later_call (inBox_spec_v a b c d v.x v.y _ HP.out _)))))
        refine wpQuiet_nil ?_
        intro W1 hW1
        have HL : Hid (Below W0.heap.size W0 W1) := by obtain ⟨x, rfl⟩ := hW1; exact Lib.hid x.below
        clear hW1 lc0 lc1 lc2 lc3 lc4 lc5 lc6 lc7 lc8
        have HB2' := Lib.hid (bthen hB.out HL.out hB.out.size)
        clear c0 c1 c2 c3 c4 e0 e1 e2 e3
        go_wp2_with fail
        go_roundw
        case rel => exact ⟨k + 1, k, by omega, by go_num, rfl, HN, HB2'⟩
        case measure => simp [intOf]; omega
      obtain ⟨j, hj, he1, he2⟩ := shU_some (L := L) (P := inP a b c d) (k := k) (by rw [← hM.out]; exact hn)
      obtain rfl : (j : Int) = m := by rw [hM.out]; exact he1.symm
      obtain ⟨b2, o2, u, hA2, hbl2, hL2, d0, d1, d2, d3, d4⟩ := (sds_at HS2.out hB.out).2 j (by omega)
      obtain ⟨rfl, rfl⟩ : b' = b2 ∧ o' = o2 := by injection hA2 with h; injection h with h h'; exact ⟨h, h'⟩
      have HU := Lib.hid (sm_at HG.out hL2)
      rw [sdAt_at hL2] at he2
      have hd : decide ((j : Int) < 0) = false := decide_eq_false hn
      by_cases hl : lowS v < lowS u
      · have HN : Hid ((k : Int) = shK L (inP a b c d) (k + 1)) := by unfold Hid; rw [(sh_less (by unfold inP; rw [HKV.out]; exact hp) (by rw [← hM.out]; exact hn) (by rw [HKV.out, he2]; exact hl)).1]
        have hdl : decide (lowS v < lowS u) = true := decide_eq_true hl
        clear hp he1 he2 hL2 hA2 hn hl
        go_wp2_with fail
        have lc0 := lcell (c0)
        have lc1 := lcell (c1)
        have lc2 := lcell (c2)
        have lc3 := lcell (c3)
        have lc4 := lcell (c4)
        have lc5 := lcell (d0)
        have lc6 := lcell (d1)
        have lc7 := lcell (d2)
        have lc8 := lcell (d3)
        have lc9 := lcell (d4)
        have lc10 := lcell (e0)
        have lc11 := lcell (e1)
        have lc12 := lcell (e2)
        have lc13 := lcell (e3)
        refine region_later (W := W0) (by kernel_rfl) (by kernel_rfl) (Below.refl _ _) ?_
        repeat (go_big_quiet_step (((first | (go_at_call 140; exact later_call (inBox_spec_v a b c d v.x v.y _ HP.out _)) | (go_at_call 134; exact later_call (lowS_spec v HV.out _)) | (go_at_call 134; exact later_call (lowS_spec u HU.out _))))))
        refine wpQuiet_nil ?_
        intro W1 hW1
        have HL : Hid (Below W0.heap.size W0 W1) := by obtain ⟨x, rfl⟩ := hW1; exact Lib.hid x.below
        clear hW1 lc0 lc1 lc2 lc3 lc4 lc5 lc6 lc7 lc8 lc9 lc10 lc11 lc12 lc13
        have HB2' := Lib.hid (bthen hB.out HL.out hB.out.size)
        clear c0 c1 c2 c3 c4 d0 d1 d2 d3 d4 e0 e1 e2 e3
        go_wp2_with fail
        go_roundw
        case rel => exact ⟨k + 1, k, by omega, by go_num, rfl, HN, HB2'⟩
        case measure => simp [intOf]; omega
      · have HN : Hid ((j : Int) = shK L (inP a b c d) (k + 1)) := by unfold Hid; rw [(sh_more (P := inP a b c d) (by rw [← hM.out]; exact hn) (by rw [HKV.out, he2]; exact hl)).1]; exact hM.out
        have hdl : decide (lowS v < lowS u) = false := decide_eq_false hl
        clear hp he1 he2 hL2 hA2 hn hl
        go_wp2_with fail
        have lc0 := lcell (c0)
        have lc1 := lcell (c1)
        have lc2 := lcell (c2)
        have lc3 := lcell (c3)
        have lc4 := lcell (c4)
        have lc5 := lcell (d0)
        have lc6 := lcell (d1)
        have lc7 := lcell (d2)
        have lc8 := lcell (d3)
        have lc9 := lcell (d4)
        have lc10 := lcell (e0)
        have lc11 := lcell (e1)
        have lc12 := lcell (e2)
        have lc13 := lcell (e3)
        refine region_later (W := W0) (by kernel_rfl) (by kernel_rfl) (Below.refl _ _) ?_
        repeat (go_big_quiet_step (((first | (go_at_call 140; exact later_call (inBox_spec_v a b c d v.x v.y _ HP.out _)) | (go_at_call 134; exact later_call (lowS_spec v HV.out _)) | (go_at_call 134; exact later_call (lowS_spec u HU.out _))))))
        refine wpQuiet_nil ?_
        intro W1 hW1
        have HL : Hid (Below W0.heap.size W0 W1) := by obtain ⟨x, rfl⟩ := hW1; exact Lib.hid x.below
        clear hW1 lc0 lc1 lc2 lc3 lc4 lc5 lc6 lc7 lc8 lc9 lc10 lc11 lc12 lc13
        have HB2' := Lib.hid (bthen hB.out HL.out hB.out.size)
        clear c0 c1 c2 c3 c4 d0 d1 d2 d3 d4 e0 e1 e2 e3
        go_wp2_with fail
        go_roundw
        case rel => exact ⟨k + 1, j, by omega, by go_num, rfl, HN, HB2'⟩
        case measure => simp [intOf]; omega
    · obtain rfl : k = L.length := by omega
      have HBT := Lib.hid (bthen HB2.out hB.out HB2.out.size)
      by_cases hn : m < 0
      · have HQ : Hid (siV L a b c d = 0 ∧ siK L a b c d = false) := by
          unfold Hid
          rw [HR.out.1, HR.out.2, shU_none (by rw [← hM.out]; exact hn), ← hM.out]
          exact ⟨rfl, decide_eq_false (by omega)⟩
        have hd : decide (m < 0) = true := decide_eq_true hn
        go_wp2_with fail
        go_ret2
        exact nb_no HQ.out HBT.out
      · obtain ⟨j, hj, he1, he2⟩ := shU_some (L := L) (P := inP a b c d) (k := L.length) (by rw [← hM.out]; exact hn)
        obtain rfl : (j : Int) = m := by rw [hM.out]; exact he1.symm
        obtain ⟨b2, o2, u, rfl, hbl2, hL2, d0, d1, d2, d3, d4⟩ := (sds_at HS2.out hB.out).2 j hj
        rw [sdAt_at hL2] at he2
        have HQ : Hid (siV L a b c d = u.id ∧ siK L a b c d = true) := by
          unfold Hid
          rw [HR.out.1, HR.out.2, he2, ← hM.out]
          exact ⟨rfl, decide_eq_true (by omega)⟩
        have hd : decide ((j : Int) < 0) = false := decide_eq_false hn
        clear he1 he2 hL2 hn d1 d2 d3 d4
        go_wp2_with fail
        go_ret2
        exact nb_is HQ.out HBT.out
end Go.Proofs.Ytdmnkmdlochogaa
