/-
  Intervals of soundings: contracts of impl.leastOf, greatestOf, commonTo, AllAgree, spec.l8Low, l8High, l8Find, AllAgree over this translation. Conditions: stated at each theorem.
-/
import Derived.Test.YtklbefdpfhidkaaDoorQv
import Derived.Test.YtklbefdpfhidkaaDoorRed
namespace Go.Proofs.YtklbefdpfhidkaaDoor
open Go.RowKit

/-- Numbers that do not overflow. -/
def SmS (v : SD) : Prop := (-100000 ≤ v.dep ∧ v.dep ≤ 100000) ∧ (-100000 ≤ v.dbt ∧ v.dbt ≤ 100000)
theorem sm_of {v : SD} (h : sdB v = true) : SmS v := by
  obtain ⟨_, _, _, ⟨a, b⟩, ⟨c, d⟩⟩ := sdB_parts h
  exact ⟨⟨by omega, by omega⟩, ⟨by omega, by omega⟩⟩
theorem sm_at {L : List SD} (h : Good8 L) {k : Nat} {v : SD} (hv : L[k]? = some v) : SmS v := by
  have h1 := h.one k (List.getElem?_eq_some_iff.1 hv).1
  rw [sdAt_at hv] at h1
  exact sm_of h1
theorem SmS.low {v : SD} (h : SmS v) : -200000 ≤ lowS v ∧ lowS v ≤ 200000 := by
  obtain ⟨⟨a, b⟩, ⟨c, d⟩⟩ := h
  unfold lowS
  omega
theorem SmS.high {v : SD} (h : SmS v) : -200000 ≤ highS v ∧ highS v ≤ 200000 := by
  obtain ⟨⟨a, b⟩, ⟨c, d⟩⟩ := h
  unfold highS
  omega
theorem lowS_impl (v : SD) (h : SmS v) (w : World) :
    Calls Tryd.prog 63 #[.agg #[.int .i64 v.id, .int .i64 v.x, .int .i64 v.y, .int .i64 v.dep, .int .i64 v.dbt]] w fun e w' => e = .returned (.int .i64 (lowS v)) ∧ Below w.heap.size w w' := by
  obtain ⟨⟨a, b⟩, ⟨c, d⟩⟩ := h
  go_enter Tryd.func63, Tryd.ntmps63
  go_wp2_with fail
  go_ret
  exact ⟨rfl, (Below.refl _ _).alloc (Nat.le_refl _) _⟩
theorem highS_impl (v : SD) (h : SmS v) (w : World) :
    Calls Tryd.prog 64 #[.agg #[.int .i64 v.id, .int .i64 v.x, .int .i64 v.y, .int .i64 v.dep, .int .i64 v.dbt]] w fun e w' => e = .returned (.int .i64 (highS v)) ∧ Below w.heap.size w w' := by
  obtain ⟨⟨a, b⟩, ⟨c, d⟩⟩ := h
  go_enter Tryd.func64, Tryd.ntmps64
  go_wp2_with fail
  go_ret
  exact ⟨rfl, (Below.refl _ _).alloc (Nat.le_refl _) _⟩
theorem lowS_spec (v : SD) (h : SmS v) (w : World) :
    Calls Tryd.prog 44 #[.agg #[.int .i64 v.id, .int .i64 v.x, .int .i64 v.y, .int .i64 v.dep, .int .i64 v.dbt]] w fun e w' => e = .returned (.int .i64 (lowS v)) ∧ Below w.heap.size w w' := by
  obtain ⟨⟨a, b⟩, ⟨c, d⟩⟩ := h
  go_enter Tryd.func44, Tryd.ntmps44
  go_wp2_with fail
  go_ret
  exact ⟨rfl, (Below.refl _ _).alloc (Nat.le_refl _) _⟩
theorem highS_spec (v : SD) (h : SmS v) (w : World) :
    Calls Tryd.prog 45 #[.agg #[.int .i64 v.id, .int .i64 v.x, .int .i64 v.y, .int .i64 v.dep, .int .i64 v.dbt]] w fun e w' => e = .returned (.int .i64 (highS v)) ∧ Below w.heap.size w w' := by
  obtain ⟨⟨a, b⟩, ⟨c, d⟩⟩ := h
  go_enter Tryd.func45, Tryd.ntmps45
  go_wp2_with fail
  go_ret
  exact ⟨rfl, (Below.refl _ _).alloc (Nat.le_refl _) _⟩
/-! ### spec.l8Find -/
set_option maxHeartbeats 800000 in
theorem find_spec (A : Option Addr) (n c : Nat) (L : List SD) (id : Int) (w : World) (hs : Sds w w.heap.size A n L) (hm : n ≤ maxLen) :
    Calls Tryd.prog 50 #[.slice A n c, .int .i64 id] w fun e w' => e = .returned (.int .i64 (fdS L id)) ∧ w = w' := by
  obtain rfl := hs.1
  have HS := Lib.hid hs
  clear hs
  unfold maxLen at hm
  go_enter Tryd.func50, Tryd.ntmps50
  go_wp2_with fail
  go_loop [5] (fun i => ∃ k : Nat, k ≤ L.length ∧ i = .int .i64 k ∧ Hid (∀ j, j < k → (sdAt L j).id ≠ id)) (fun i => L.length - (intOf i).toNat)
  case atStart => exact ⟨0, Nat.zero_le _, rfl, Lib.hid fun j hj => absurd hj (by omega)⟩
  case round =>
    obtain ⟨k, hk, rfl, hN⟩ := hrel
    by_cases hlt : k < L.length
    · obtain ⟨b, o, v, rfl, hbl, hL, c0, c1, c2, c3, c4⟩ := HS.out.2 k hlt
      have HK := Lib.hid (sdAt_at hL)
      clear hL c1 c2 c3 c4
      by_cases he : v.id = id
      · have hd : (v.id == id) = true := beq_iff_eq.2 he
        have HR : Hid (fdS L id = k) := Lib.hid (fdK_hit hlt (by rw [HK.out]; exact he) hN.out)
        clear he
        go_wp2_with fail
        go_ret
        exact ⟨ret_int HR.out.symm, rfl⟩
      · have hd : (v.id == id) = false := beq_eq_false_iff_ne.2 he
        have HR : Hid (∀ j, j < k + 1 → (sdAt L j).id ≠ id) := Lib.hid fun j hj => by
          rcases Nat.lt_or_ge j k with h | h
          · exact hN.out j h
          · obtain rfl : j = k := by omega
            rw [HK.out]; exact he
        clear he
        go_wp2_with fail
        go_round
        case rel => exact ⟨k + 1, by omega, by go_num, HR⟩
        case measure => simp [intOf]; omega
    · obtain rfl : k = L.length := by omega
      have HR : Hid (fdS L id = -1) := Lib.hid (fdK_none hN.out)
      go_wp2_with fail
      go_ret
      exact ⟨ret_int HR.out.symm, rfl⟩
theorem find_spec_v (A : Option Addr) (n c : Nat) (L : List SD) (id : Int) (r : Int) (h : fdS L id = r) (w : World) (hs : Sds w w.heap.size A n L) (hm : n ≤ maxLen) :
    Calls Tryd.prog 50 #[.slice A n c, .int .i64 id] w fun e w' => e = .returned (.int .i64 r) ∧ w = w' := h ▸ find_spec A n c L id w hs hm
theorem Sds.tail {w : World} {B b o n : Nat} {L : List SD} (h : Sds w B (some ⟨b, o, none⟩) n L) : Sds w B (some ⟨b, o + 5, none⟩) (n - 1) (L.drop 1) :=
  ⟨by have := h.1; simp; omega, fun k hk => by
    obtain ⟨b', o', v, hA, hlt, hL, h5⟩ := h.2 (k + 1) (by omega)
    obtain ⟨rfl, rfl⟩ : b = b' ∧ o = o' := by injection hA with h; injection h with h h'; exact ⟨h, h'⟩
    refine ⟨b, o + 5, v, rfl, hlt, by rw [List.getElem?_drop, Nat.add_comm]; exact hL, ?_⟩
    rwa [show o + 5 + k * 5 = o + (k + 1) * 5 by omega]⟩
/-! ### What all have in common -/
def agOk (L : List SD) : Bool := decide (loK L L.length ≤ hiK L L.length)
def agLo (L : List SD) : Int := if agOk L then loK L L.length else 0
def agHi (L : List SD) : Int := if agOk L then hiK L L.length else 0
/-- Numbers in common and whether there are some, handed back. -/
def AgPost (lo hi : Int) (K : Bool) (w : World) (e : Ending) (w' : World) : Prop := e = .returned (.tuple #[.int .i64 lo, .int .i64 hi, .bool K]) ∧ Below w.heap.size w w'
theorem ag_ret {a b lo hi : Int} {x K : Bool} (h1 : lo = a) (h2 : hi = b) (h3 : K = x) : Ending.returned (.tuple #[.int .i64 a, .int .i64 b, .bool x]) = .returned (.tuple #[.int .i64 lo, .int .i64 hi, .bool K]) := by rw [h1, h2, h3]
theorem ag_bd {L : List SD} (h : ∀ v ∈ L, SmS v) : ∀ k, k ≤ L.length → (-200000 ≤ loK L k ∧ loK L k ≤ 200000) ∧ (-200000 ≤ hiK L k ∧ hiK L k ≤ 200000) := by
  have one : ∀ k, k < L.length → SmS (sdAt L k) := fun k hk => by
    have hv := List.getElem?_eq_getElem hk
    rw [sdAt_at hv]
    exact h _ (List.getElem_mem hk)
  intro k
  induction k with
  | zero => intro _; rw [loK, hiK]; omega
  | succ k ih =>
    intro hk
    have a := (one k (by omega)).low
    have b := (one k (by omega)).high
    rcases k with _ | k
    · exact ⟨a, b⟩
    · obtain ⟨p, q⟩ := ih (by omega)
      rw [loK, hiK]
      omega
set_option maxRecDepth 20000 in
set_option maxHeartbeats 3200000 in
theorem common_impl (A : Option Addr) (n c : Nat) (L : List SD) (w : World) (hs : Sds w w.heap.size A n L) (hm : n ≤ maxLen) (hc : n ≤ c) (h0 : 0 < n) (hS : ∀ v ∈ L, SmS v) :
    Calls Tryd.prog 42 #[.slice A n c] w (AgPost (agLo L) (agHi L) (agOk L) w) := by
  obtain rfl := hs.1
  have HS := Lib.hid hs
  have HM := Lib.hid hS
  have HD := Lib.hid (ag_bd hS)
  clear hs hS
  unfold maxLen at hm
  obtain ⟨b, o, v, rfl, hbl, hL, c0, c1, c2, c3, c4⟩ := HS.out.2 0 h0
  simp only [Nat.zero_mul, Nat.add_zero] at c0 c1 c2 c3 c4
  have HV := Lib.hid (HM.out v (List.mem_of_getElem? hL))
  have H1 : Hid (loK L 1 = lowS v ∧ hiK L 1 = highS v) := Lib.hid ⟨by rw [loK, sdAt_at hL], by rw [hiK, sdAt_at hL]⟩
  clear hL
  go_enter Tryd.func42, Tryd.ntmps42
  go_wp2_with fail
  have lc0 := lcell (c0)
  have lc1 := lcell (c1)
  have lc2 := lcell (c2)
  have lc3 := lcell (c3)
  have lc4 := lcell (c4)
  refine region_later (W := w) (by kernel_rfl) (by kernel_rfl) (Below.refl _ _) ?_
  repeat (go_big_quiet_step (((first | (go_at_call 63; exact later_call (lowS_impl v HV.out _)) | (go_at_call 64; exact later_call (highS_impl v HV.out _))))))
  refine wpQuiet_nil ?_
  intro W1 hW1
  have HL : Hid (Below w.heap.size w W1) := by obtain ⟨x, rfl⟩ := hW1; exact Lib.hid x.below
  clear hW1 lc0 lc1 lc2 lc3 lc4
  clear c0 c1 c2 c3 c4
  rw [← H1.out.1, ← H1.out.2]
  go_wp2_with fail
  all_goals (first
    | (obtain ⟨AA, hAA, HT⟩ : ∃ AA : Option Addr, (some ⟨b, o + 5, none⟩ : Option Addr) = AA ∧ Hid (Sds W1 W1.heap.size AA (L.length - 1) (L.drop 1)) := ⟨_, rfl, Lib.hid (sds_at HS.out HL.out).tail⟩; rw [hAA]; clear hAA)
    | (obtain ⟨AA, hAA, HT⟩ : ∃ AA : Option Addr, (some ⟨b, o, none⟩ : Option Addr) = AA ∧ Hid (Sds W1 W1.heap.size AA (L.length - 1) (L.drop 1)) := ⟨_, rfl, Lib.hid ⟨by simp, fun k hk => absurd hk (by omega)⟩⟩; rw [hAA]; clear hAA))
  all_goals (
    clear h hc
    go_loopw [5, 6, 20] (fun x5 x6 i wr => ∃ j : Nat, j + 1 ≤ L.length ∧ i = .int .i64 j ∧ x5 = .int .i64 (loK L (j + 1)) ∧ x6 = .int .i64 (hiK L (j + 1)) ∧ Hid (Below w.heap.size w wr) ∧ Hid (Below W1.heap.size W1 wr)) (fun _ _ i _ => L.length - (intOf i).toNat)
    case atStart => exact ⟨0, by omega, rfl, rfl, rfl, HL, Lib.hid (Below.refl _ _)⟩
    case round =>
      obtain ⟨j, hj, rfl, rfl, rfl, hB, hB1⟩ := hrel
      by_cases hlt : j + 1 < L.length
      · obtain ⟨b', o', u, rfl, hbl', hL', c0, c1, c2, c3, c4⟩ := (HT.out.on hB1.out (Nat.le_refl _)).2 j (by omega)
        rw [List.getElem?_drop, Nat.add_comm] at hL'
        have HU := Lib.hid (HM.out u (List.mem_of_getElem? hL'))
        have HN : Hid ((if loK L (j + 1) < lowS u then lowS u else loK L (j + 1)) = loK L (j + 1 + 1) ∧ (if highS u < hiK L (j + 1) then highS u else hiK L (j + 1)) = hiK L (j + 1 + 1)) := Lib.hid ⟨by rw [loK, sdAt_at hL']; split <;> omega, by rw [hiK, sdAt_at hL']; split <;> omega⟩
        clear hL'
        obtain ⟨W0, hW0⟩ : ∃ W0, W0 = wr.alloc (.cells #[.int .i64 u.id, .int .i64 u.x, .int .i64 u.y, .int .i64 u.dep, .int .i64 u.dbt] 27) := ⟨_, rfl⟩
        have HW : Hid (Below wr.heap.size wr W0 ∧ Has W0 wr.heap.size [.int .i64 u.id, .int .i64 u.x, .int .i64 u.y, .int .i64 u.dep, .int .i64 u.dbt]) := by rw [hW0]; exact box1 (Below.refl _ _)
        have HE := Lib.hid hW0
        clear hW0
        have a0 := HW.out.2.at_ 0 _ rfl
        have a1 := HW.out.2.at_ 1 _ rfl
        have a2 := HW.out.2.at_ 2 _ rfl
        have a3 := HW.out.2.at_ 3 _ rfl
        have a4 := HW.out.2.at_ 4 _ rfl
        go_wp2_with fail
        rw [← HE.out]
        clear c0 c1 c2 c3 c4
        have lc0 := lcell (a0)
        have lc1 := lcell (a1)
        have lc2 := lcell (a2)
        have lc3 := lcell (a3)
        have lc4 := lcell (a4)
        refine region_later (W := W0) (by kernel_rfl) (by kernel_rfl) (Below.refl _ _) ?_
        repeat (go_big_quiet_step (((first | (go_at_call 63; exact later_call (lowS_impl u HU.out _)) | (go_at_call 64; exact later_call (highS_impl u HU.out _))))))
        refine wpQuiet_nil ?_
        intro W2 hW1
        have HL : Hid (Below W0.heap.size W0 W2) := by obtain ⟨x, rfl⟩ := hW1; exact Lib.hid x.below
        clear hW1 lc0 lc1 lc2 lc3 lc4
        rw [HN.out.1, HN.out.2]
        have HB2 := Lib.hid (bthen hB.out (HW.out.1.trans (HL.out.mono HW.out.1.size)) hB.out.size)
        have HB3 := Lib.hid (bthen hB1.out (HW.out.1.trans (HL.out.mono HW.out.1.size)) hB1.out.size)
        clear a0 a1 a2 a3 a4
        go_wp2_with fail
        go_roundw
        case rel => exact ⟨j + 1, by omega, by go_num, rfl, rfl, HB2, HB3⟩
        case measure => simp [intOf]; omega
      · obtain ⟨d1, d2⟩ := HD.out (j + 1) (by omega)
        obtain ⟨d11, d12⟩ := d1
        obtain ⟨d21, d22⟩ := d2
        have HJ : Hid (j + 1 = L.length) := Lib.hid (by omega)
        obtain ⟨lo, hlo⟩ : ∃ lo, loK L (j + 1) = lo := ⟨_, rfl⟩
        obtain ⟨hi, hhi⟩ : ∃ hi, hiK L (j + 1) = hi := ⟨_, rfl⟩
        rw [hlo] at d11 d12
        rw [hhi] at d21 d22
        rw [hlo, hhi]
        have HLO := Lib.hid (show loK L L.length = lo by rw [← HJ.out]; exact hlo)
        have HHI := Lib.hid (show hiK L L.length = hi by rw [← HJ.out]; exact hhi)
        clear hlo hhi
        by_cases hx : lo ≤ hi
        · have HR : Hid (agOk L = true) := by unfold Hid agOk; rw [HLO.out, HHI.out]; exact decide_eq_true hx
          have hd : decide (hi < lo) = false := decide_eq_false (by omega)
          go_wp2_with fail
          go_ret3
          exact ⟨ag_ret (by unfold agLo; rw [HR.out, if_pos rfl, HLO.out]) (by unfold agHi; rw [HR.out, if_pos rfl, HHI.out]) HR.out, hB.out⟩
        · have HR : Hid (agOk L = false) := by unfold Hid agOk; rw [HLO.out, HHI.out]; exact decide_eq_false hx
          have hd : decide (hi < lo) = true := decide_eq_true (by omega)
          go_wp2_with fail
          go_ret3
          exact ⟨ag_ret (by unfold agLo; rw [HR.out]; rfl) (by unfold agHi; rw [HR.out]; rfl) HR.out, hB.out⟩)
/-! ### AllAgree -/
def alOk (L : List SD) : Bool := sdsB L && decide (0 < L.length) && agOk L
def alLo (L : List SD) : Int := if alOk L then loK L L.length else 0
def alHi (L : List SD) : Int := if alOk L then hiK L L.length else 0
theorem al_no1 {L : List SD} (h : sdsB L = false) : alLo L = 0 ∧ alHi L = 0 ∧ alOk L = false := by
  have : alOk L = false := by unfold alOk; rw [h]; rfl
  exact ⟨by unfold alLo; rw [this]; rfl, by unfold alHi; rw [this]; rfl, this⟩
theorem al_no2 {L : List SD} (h : L.length = 0) : alLo L = 0 ∧ alHi L = 0 ∧ alOk L = false := by
  have : alOk L = false := by unfold alOk; rw [decide_eq_false (show ¬ 0 < L.length by omega)]; simp
  exact ⟨by unfold alLo; rw [this]; rfl, by unfold alHi; rw [this]; rfl, this⟩
theorem al_yes {L : List SD} (h : sdsB L = true) (h0 : 0 < L.length) : alLo L = agLo L ∧ alHi L = agHi L ∧ alOk L = agOk L := by
  have : alOk L = agOk L := by unfold alOk; rw [h, decide_eq_true h0]; rfl
  exact ⟨by unfold alLo agLo; rw [this], by unfold alHi agHi; rw [this], this⟩
theorem ag_no {lo hi : Int} {K : Bool} {w w' : World} (h : lo = 0 ∧ hi = 0 ∧ K = false) (hb : Below w.heap.size w w') : AgPost lo hi K w (.returned (.tuple #[.int .i64 0, .int .i64 0, .bool false])) w' := ⟨by rw [h.1, h.2.1, h.2.2], hb⟩
theorem ag_same {lo hi a b : Int} {K x : Bool} {w w' : World} (h : lo = a ∧ hi = b ∧ K = x) (hb : Below w.heap.size w w') : AgPost lo hi K w (.returned (.tuple #[.int .i64 a, .int .i64 b, .bool x])) w' := ⟨by rw [h.1, h.2.1, h.2.2], hb⟩
theorem sm_all {L : List SD} (h : sdsB L = true) : ∀ v ∈ L, SmS v := fun v hv => by
  obtain ⟨k, hk⟩ := List.mem_iff_getElem?.1 hv
  exact sm_at (good8_of h) hk
set_option maxRecDepth 20000 in
set_option maxHeartbeats 3200000 in
theorem all_impl (A : Option Addr) (n c : Nat) (L : List SD) (w : World) (hs : Sds w w.heap.size A n L) (hm : n ≤ maxLen) (hc : n ≤ c) :
    Calls Tryd.prog 15 #[.slice A n c] w (AgPost (alLo L) (alHi L) (alOk L) w) := by
  obtain rfl := hs.1
  have HS := Lib.hid hs
  clear hs
  rcases ha : sdsB L with _ | _
  · have HA := Lib.hid ha
    clear ha
    go_enter Tryd.func15, Tryd.ntmps15
    go_wp2_with fail
    refine (sds_impl_v _ _ _ L _ HA.out _ HS.out hm).mono ?_
    rintro e w1 ⟨rfl, hb⟩
    have HB1 := Lib.hid hb
    clear hb
    go_wp2_with fail
    go_ret3
    exact ag_no (al_no1 HA.out) HB1.out
  have HA := Lib.hid ha
  have HG := Lib.hid (good8_of ha)
  have h12 := (good8_of ha).max
  have HM := Lib.hid (sm_all ha)
  clear ha
  by_cases h0 : L.length = 0
  · have HZ := Lib.hid h0
    have hz : (((L.length : Nat) : Int) == 0) = true := beq_iff_eq.2 (by omega)
    clear h0
    go_enter Tryd.func15, Tryd.ntmps15
    go_wp2_with fail
    refine (sds_impl_v _ _ _ L _ HA.out _ HS.out hm).mono ?_
    rintro e w1 ⟨rfl, hb⟩
    have HB1 := Lib.hid hb
    clear hb
    go_wp2_with fail
    go_ret3
    exact ag_no (al_no2 HZ.out) HB1.out
  have hz : (((L.length : Nat) : Int) == 0) = false := beq_eq_false_iff_ne.2 (by omega)
  have HP := Lib.hid (al_yes HA.out (by omega))
  go_enter Tryd.func15, Tryd.ntmps15
  go_wp2_with fail
  refine (sds_impl_v _ _ _ L _ HA.out _ HS.out hm).mono ?_
  rintro e W1 ⟨rfl, hb⟩
  have HB1 := Lib.hid hb
  clear hb
  go_wp2_with fail
  refine (common_impl _ _ _ L _ (sds_at HS.out HB1.out) hm hc (by omega) HM.out).mono ?_
  rintro e w2 ⟨rfl, hb⟩
  have HB2 := Lib.hid (bthen HB1.out hb HB1.out.size)
  clear hb
  go_wp2_with fail
  go_ret3
  exact ag_same HP.out HB2.out
set_option maxRecDepth 20000 in
set_option maxHeartbeats 3200000 in
theorem all_spec (A : Option Addr) (n c : Nat) (L : List SD) (w : World) (hs : Sds w w.heap.size A n L) (hm : n ≤ maxLen) (hc : n ≤ c) :
    Calls Tryd.prog 16 #[.slice A n c] w (AgPost (alLo L) (alHi L) (alOk L) w) := by
  obtain rfl := hs.1
  have HS := Lib.hid hs
  clear hs
  rcases ha : sdsB L with _ | _
  · have HA := Lib.hid ha
    clear ha
    go_enter Tryd.func16, Tryd.ntmps16
    go_wp2_with fail
    refine (good_spec_v _ _ _ L _ HA.out _ HS.out hm).mono ?_
    rintro e w1 ⟨rfl, hb⟩
    have HB1 := Lib.hid hb
    clear hb
    go_wp2_with fail
    go_ret3
    exact ag_no (al_no1 HA.out) HB1.out
  have HA := Lib.hid ha
  have HG := Lib.hid (good8_of ha)
  have h12 := (good8_of ha).max
  have HM := Lib.hid (sm_all ha)
  clear ha
  by_cases h0 : L.length = 0
  · have HZ := Lib.hid h0
    have hz : (((L.length : Nat) : Int) == 0) = true := beq_iff_eq.2 (by omega)
    clear h0
    go_enter Tryd.func16, Tryd.ntmps16
    go_wp2_with fail
    refine (good_spec_v _ _ _ L _ HA.out _ HS.out hm).mono ?_
    rintro e w1 ⟨rfl, hb⟩
    have HB1 := Lib.hid hb
    clear hb
    go_wp2_with fail
    go_ret3
    exact ag_no (al_no2 HZ.out) HB1.out
  have hz : (((L.length : Nat) : Int) == 0) = false := beq_eq_false_iff_ne.2 (by omega)
  have HP := Lib.hid (al_yes HA.out (by omega))
  go_enter Tryd.func16, Tryd.ntmps16
  go_wp2_with fail
  refine (good_spec_v _ _ _ L _ HA.out _ HS.out hm).mono ?_
  rintro e W1 ⟨rfl, hb⟩
  have HB1 := Lib.hid hb
  clear hb
  go_wp2_with fail
  have HD := Lib.hid (ag_bd HM.out)
  obtain ⟨b, o, v, rfl, hbl, hL, c0, c1, c2, c3, c4⟩ := (sds_at HS.out HB1.out).2 0 (by omega)
  simp only [Nat.zero_mul, Nat.add_zero] at c0 c1 c2 c3 c4
  have HV := Lib.hid (HM.out v (List.mem_of_getElem? hL))
  have H1 : Hid (loK L 1 = lowS v ∧ hiK L 1 = highS v) := Lib.hid ⟨by rw [loK, sdAt_at hL], by rw [hiK, sdAt_at hL]⟩
  clear hL
  have lc0 := lcell (c0)
  have lc1 := lcell (c1)
  have lc2 := lcell (c2)
  have lc3 := lcell (c3)
  have lc4 := lcell (c4)
  refine region_later (W := W1) (by kernel_rfl) (by kernel_rfl) (Below.refl _ _) ?_
  repeat (go_big_quiet_step (((first | (go_at_call 44; exact later_call (lowS_spec v HV.out _)) | (go_at_call 45; exact later_call (highS_spec v HV.out _))))))
  refine wpQuiet_nil ?_
  intro W2 hW1
  have HL : Hid (Below W1.heap.size W1 W2) := by obtain ⟨x, rfl⟩ := hW1; exact Lib.hid x.below
  clear hW1 lc0 lc1 lc2 lc3 lc4
  have HB2 := Lib.hid (bthen HB1.out HL.out HB1.out.size)
  clear c0 c1 c2 c3 c4
  rw [← H1.out.1, ← H1.out.2]
  go_wp2_with fail
  go_loopw [5, 6, 7] (fun x5 x6 i wr => ∃ k : Nat, k + 1 ≤ L.length ∧ i = .int .i64 ((k : Int) + 1) ∧ x5 = .int .i64 (loK L (k + 1)) ∧ x6 = .int .i64 (hiK L (k + 1)) ∧ Hid (Below w.heap.size w wr)) (fun _ _ i _ => L.length - (intOf i).toNat)
  case atStart => exact ⟨0, by omega, rfl, rfl, rfl, HB2⟩
  case round =>
    obtain ⟨k, hk, rfl, rfl, rfl, hB⟩ := hrel
    obtain ⟨d1, d2⟩ := HD.out (k + 1) (by omega)
    obtain ⟨d11, d12⟩ := d1
    obtain ⟨d21, d22⟩ := d2
    by_cases hlt : k + 1 < L.length
    · obtain ⟨b', o', u, hA', hbl', hL', c0, c1, c2, c3, c4⟩ := (sds_at HS.out hB.out).2 (k + 1) hlt
      obtain ⟨rfl, rfl⟩ : b = b' ∧ o = o' := by injection hA' with h; injection h with h h'; exact ⟨h, h'⟩
      have HU := Lib.hid (HM.out u (List.mem_of_getElem? hL'))
      obtain ⟨nl, HNL⟩ : ∃ x, Hid (max (loK L (k + 1)) (lowS u) = x ∧ loK L (k + 1 + 1) = x) := ⟨_, Lib.hid ⟨rfl, by rw [loK, sdAt_at hL']⟩⟩
      obtain ⟨nh, HNH⟩ : ∃ x, Hid (min (hiK L (k + 1)) (highS u) = x ∧ hiK L (k + 1 + 1) = x) := ⟨_, Lib.hid ⟨rfl, by rw [hiK, sdAt_at hL']⟩⟩
      obtain ⟨lo, hlo⟩ : ∃ lo, loK L (k + 1) = lo := ⟨_, rfl⟩
      obtain ⟨hi, hhi⟩ : ∃ hi, hiK L (k + 1) = hi := ⟨_, rfl⟩
      rw [hlo] at HNL ⊢
      rw [hhi] at HNH ⊢
      clear hA' hL' hlo hhi d11 d12 d21 d22
      go_wp2_with fail
      refine (lowS_spec u HU.out _).mono ?_
      rintro e w3 ⟨rfl, hb⟩
      have HB3 := Lib.hid (bthen hB.out hb hB.out.size)
      have e0 := cell_next hb c0
      have e1 := cell_next hb c1
      have e2 := cell_next hb c2
      have e3 := cell_next hb c3
      have e4 := cell_next hb c4
      clear hb c0 c1 c2 c3 c4
      go_wp2_with fail
      refine (most_any _ _ _).mono ?_
      rintro e w4 ⟨rfl, rfl⟩
      rw [HNL.out.1]
      go_wp2_with fail
      refine (highS_spec u HU.out _).mono ?_
      rintro e w5 ⟨rfl, hb⟩
      have HB5 := Lib.hid (bthen HB3.out hb HB3.out.size)
      clear hb e0 e1 e2 e3 e4
      go_wp2_with fail
      refine (least_any _ _ _).mono ?_
      rintro e w6 ⟨rfl, rfl⟩
      rw [HNH.out.1]
      go_wp2_with fail
      go_roundw
      case rel => exact ⟨k + 1, by omega, by go_num, by rw [HNL.out.2], by rw [HNH.out.2], HB5⟩
      case measure => simp [intOf]; omega
    · have HJ : Hid (k + 1 = L.length) := Lib.hid (by omega)
      obtain ⟨lo, hlo⟩ : ∃ lo, loK L (k + 1) = lo := ⟨_, rfl⟩
      obtain ⟨hi, hhi⟩ : ∃ hi, hiK L (k + 1) = hi := ⟨_, rfl⟩
      rw [hlo] at d11 d12
      rw [hhi] at d21 d22
      rw [hlo, hhi]
      have HLO := Lib.hid (show loK L L.length = lo by rw [← HJ.out]; exact hlo)
      have HHI := Lib.hid (show hiK L L.length = hi by rw [← HJ.out]; exact hhi)
      clear hlo hhi
      by_cases hx : lo ≤ hi
      · have HR : Hid (agOk L = true) := by unfold Hid agOk; rw [HLO.out, HHI.out]; exact decide_eq_true hx
        have hd : decide (hi < lo) = false := decide_eq_false (by omega)
        go_wp2_with fail
        go_ret3
        exact ⟨ag_ret (by rw [HP.out.1]; unfold agLo; rw [HR.out, if_pos rfl, HLO.out]) (by rw [HP.out.2.1]; unfold agHi; rw [HR.out, if_pos rfl, HHI.out]) (HP.out.2.2.trans HR.out), hB.out⟩
      · have HR : Hid (agOk L = false) := by unfold Hid agOk; rw [HLO.out, HHI.out]; exact decide_eq_false hx
        have hd : decide (hi < lo) = true := decide_eq_true (by omega)
        go_wp2_with fail
        go_ret3
        exact ⟨ag_ret (by rw [HP.out.1]; unfold agLo; rw [HR.out]; rfl) (by rw [HP.out.2.1]; unfold agHi; rw [HR.out]; rfl) (HP.out.2.2.trans HR.out), hB.out⟩
end Go.Proofs.YtklbefdpfhidkaaDoor
