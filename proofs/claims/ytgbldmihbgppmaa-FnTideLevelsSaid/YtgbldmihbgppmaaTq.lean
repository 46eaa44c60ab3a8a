/-
  Reduced depths: contracts of impl.roundedDown, spec.l4Floor, impl.ReducedDepth, spec.ReducedDepth over this translation. Conditions: stated at each theorem.
-/
import Derived.Test.YtgbldmihbgppmaaTf
namespace Go.Proofs.Ytgbldmihbgppmaa
open Go.RowKit

theorem floor_unique {a q r : Int} {D : Nat} (hD : 0 < D) (h : r + (D : Int) * q = a) (h0 : 0 ≤ r) (h1 : r < D) : a / (D : Int) = q :=
  ((Int.ediv_emod_unique (a := a) (b := (D : Int)) (Int.natCast_pos.2 hD)).2 ⟨h, h0, h1⟩).1
theorem tmod_parts (a : Int) {D : Nat} (hD : 0 < D) (ha : a < 0) : a.tmod D + (D : Int) * a.tdiv D = a ∧ a.tmod D ≤ 0 ∧ -(D : Int) < a.tmod D := by
  have hp : (0 : Int) < D := Int.natCast_pos.2 hD
  refine ⟨Int.tmod_add_mul_tdiv a D, ?_, ?_⟩
  · have h := Int.tmod_nonneg (a := -a) (D : Int) (by omega)
    rw [Int.neg_tmod] at h; omega
  · have h := Int.tmod_lt_of_pos (-a) hp
    rw [Int.neg_tmod] at h; omega
theorem floor_neg {a : Int} {D : Nat} (hD : 0 < D) (ha : a < 0) (hr : a.tmod D < 0) : a.tdiv D - 1 = a / (D : Int) := by
  obtain ⟨h1, h2, h3⟩ := tmod_parts a hD ha
  refine (floor_unique (r := a.tmod D + D) hD ?_ (by omega) (by omega)).symm
  rw [Int.mul_sub, Int.mul_one]; omega
theorem floor_whole {a : Int} {D : Nat} (hD : 0 < D) (ha : a < 0) (hr : ¬ a.tmod D < 0) : a.tdiv D = a / (D : Int) := by
  obtain ⟨h1, h2, h3⟩ := tmod_parts a hD ha
  exact (floor_unique (r := 0) hD (by omega) (by omega) (by omega)).symm
theorem floor_ceil {a : Int} {D N : Nat} (hD : 0 < D) (hN : -a + D - 1 = N) : -((N : Int) / (D : Int)) = a / (D : Int) := by
  have hp : (0 : Int) < D := Int.natCast_pos.2 hD
  have h1 := Int.emod_add_mul_ediv (N : Int) D
  have h2 := Int.emod_nonneg (N : Int) (show (D : Int) ≠ 0 by omega)
  have h3 := Int.emod_lt_of_pos (N : Int) hp
  refine (floor_unique (r := D - 1 - (N : Int) % D) hD ?_ (by omega) (by omega)).symm
  rw [Int.mul_neg]; omega
set_option maxHeartbeats 800000 in
theorem floor_impl (a : Int) (D : Nat) (v : Int) (h : a / (D : Int) = v) (w : World) (h1 : -1000000000 ≤ a) (h2 : a ≤ 1000000000) (h3 : 0 < D) (h4 : D ≤ 1000000) :
    Calls Try.prog 102 #[.int .i64 a, .int .i64 D] w fun e w' => e = .returned (.int .i64 v) ∧ Below w.heap.size w w' := by
  have hn0 : ((D : Int) == 0) = false := beq_eq_false_iff_ne.2 (by omega)
  by_cases ha : 0 ≤ a
  · obtain ⟨N, rfl⟩ : ∃ N : Nat, a = N := ⟨a.toNat, by omega⟩
    have H := Lib.hid h
    clear h
    have hd2 : 0 ≤ (N : Int) / (D : Int) ∧ (N : Int) / (D : Int) ≤ 1000000000000 := ediv_bd (by omega)
    obtain ⟨hd21, hd22⟩ := hd2
    have hw2 : wrap64 ((N : Int) / (D : Int)) = (N : Int) / (D : Int) := by unfold wrap64; omega
    have hm0 : 0 ≤ (N : Int) % (D : Int) := Int.emod_nonneg _ (by omega)
    have hm1 : (N : Int) % (D : Int) < D := Int.emod_lt_of_pos _ (by omega)
    go_enter Try.func102, Try.ntmps102
    go_wp2_with fail
    go_ret
    exact ⟨ret_int H.out, Below.refl _ _⟩
  · have hd := tdiv_bd (n := a) (x := D) (by omega) (by omega)
    obtain ⟨hd11, hd12⟩ := hd
    have hw1 : IntKind.i64.wrap (a.tdiv (D : Int)) = a.tdiv (D : Int) := IntWalk.i64_in _ (by omega)
    by_cases hr : a.tmod (D : Int) < 0
    · have H := Lib.hid ((floor_neg h3 (by omega) hr).trans h)
      clear h
      go_enter Try.func102, Try.ntmps102
      go_wp2_with fail
      go_ret
      exact ⟨ret_int H.out, Below.refl _ _⟩
    · have H := Lib.hid ((floor_whole h3 (by omega) hr).trans h)
      clear h
      go_enter Try.func102, Try.ntmps102
      go_wp2_with fail
      go_ret
      exact ⟨ret_int H.out, Below.refl _ _⟩
set_option maxHeartbeats 800000 in
theorem floor_spec (a : Int) (D : Nat) (v : Int) (h : a / (D : Int) = v) (w : World) (h1 : -1000000000 ≤ a) (h2 : a ≤ 1000000000) (h3 : 0 < D) (h4 : D ≤ 1000000) :
    Calls Try.prog 104 #[.int .i64 a, .int .i64 D] w fun e w' => e = .returned (.int .i64 v) ∧ Below w.heap.size w w' := by
  have hn0 : ((D : Int) == 0) = false := beq_eq_false_iff_ne.2 (by omega)
  by_cases ha : 0 ≤ a
  · obtain ⟨N, rfl⟩ : ∃ N : Nat, a = N := ⟨a.toNat, by omega⟩
    have H := Lib.hid h
    clear h
    have hd2 : 0 ≤ (N : Int) / (D : Int) ∧ (N : Int) / (D : Int) ≤ 1000000000000 := ediv_bd (by omega)
    obtain ⟨hd21, hd22⟩ := hd2
    have hw2 : wrap64 ((N : Int) / (D : Int)) = (N : Int) / (D : Int) := by unfold wrap64; omega
    go_enter Try.func104, Try.ntmps104
    go_wp2_with fail
    go_ret
    exact ⟨ret_int H.out, Below.refl _ _⟩
  · obtain ⟨N, hN⟩ : ∃ N : Nat, -a + (D : Int) - 1 = N := ⟨(-a + (D : Int) - 1).toNat, by omega⟩
    have H := Lib.hid ((floor_ceil h3 hN).trans h)
    clear h
    have hd2 : 0 ≤ (N : Int) / (D : Int) ∧ (N : Int) / (D : Int) ≤ 1000000000000 := ediv_bd (by omega)
    obtain ⟨hd21, hd22⟩ := hd2
    have hw2 : wrap64 ((N : Int) / (D : Int)) = (N : Int) / (D : Int) := by unfold wrap64; omega
    go_enter Try.func104, Try.ntmps104
    go_wp2_with fail
    go_ret
    exact ⟨ret_int H.out, Below.refl _ _⟩

/-! ### ReducedDepth -/
def rpK (l : List (Int × Int)) (x t : Int) : Bool := loK l t && inB x 0 30000
def rpV (l : List (Int × Int)) (x t : Int) : Int := if rpK l x t then (x * lvD l t - lvN l t) / (lvD l t : Int) else 0
def RpPost (l : List (Int × Int)) (x t : Int) (w : World) (e : Ending) (w' : World) : Prop :=
  e = .returned (.tuple #[.int .i64 (rpV l x t), .bool (rpK l x t)]) ∧ Below w.heap.size w w'
theorem rp_no {l : List (Int × Int)} {x t : Int} {w w' : World} (h : rpK l x t = false) (hb : Below w.heap.size w w') : RpPost l x t w (.returned (.tuple #[.int .i64 0, .bool false])) w' :=
  ⟨by unfold rpV; rw [h]; rfl, hb⟩
theorem rp_yes {l : List (Int × Int)} {x t v : Int} {w w' : World} (h : rpK l x t = true) (hv : (x * lvD l t - lvN l t) / (lvD l t : Int) = v) (hb : Below w.heap.size w w') : RpPost l x t w (.returned (.tuple #[.int .i64 v, .bool true])) w' :=
  ⟨by unfold rpV; rw [h, if_pos rfl, hv], hb⟩
theorem dep_bd {x : Int} {d : Nat} (h1 : 0 ≤ x ∧ x ≤ 30000) (h2 : d ≤ 60) : 0 ≤ x * (d : Int) ∧ x * (d : Int) ≤ 1800000 := by
  have a := Int.mul_le_mul_of_nonneg_right h1.2 (Int.natCast_nonneg d)
  exact ⟨Int.mul_nonneg h1.1 (Int.natCast_nonneg d), by omega⟩
theorem levelOf_v (A : Option Addr) (n c : Nat) (l : List (Int × Int)) (t n0 d0 : Int) (k : Bool) (hn : loN l t = n0) (hd : loD l t = d0) (hk : loK l t = k) (w : World) (hs : Spots w w.heap.size A n l) (hm : n ≤ maxLen) :
    Calls Try.prog 93 #[.slice A n c, .int .i64 t] w fun e w' => e = .returned (.tuple #[.agg #[.int .i64 n0, .int .i64 d0], .bool k]) ∧ Below w.heap.size w w' := by
  subst hn hd hk
  exact levelOf_impl A n c l t w hs hm
theorem lo_parts {l : List (Int × Int)} {t : Int} (h : loK l t = true) : tideB l = true ∧ lvK l t = true ∧ loN l t = rlN l t ∧ loD l t = (rlD l t : Int) := by
  have h' := h
  unfold loK at h'
  rw [Bool.and_eq_true] at h'
  exact ⟨(ask_yes h'.1).1, h'.2, by unfold loN; rw [h]; rfl, by unfold loD; rw [h]; rfl⟩
theorem lo_none {l : List (Int × Int)} {t : Int} (h : loK l t = false) : loN l t = 0 ∧ loD l t = 0 := by unfold loN loD; rw [h]; exact ⟨rfl, rfl⟩
/-- A fraction in a block of its own. -/
theorem frac_box {w w1 W0 : World} {n d : Int} (hb : Below w.heap.size w w1) (h : W0 = w1.alloc (.cells #[.int .i64 n, .int .i64 d] 107)) :
    Hid (Below w.heap.size w W0 ∧ Has W0 w1.heap.size [.int .i64 n, .int .i64 d] ∧ Below w1.heap.size w1 W0) := by
  have h1 : Below w1.heap.size w1 W0 ∧ Has W0 w1.heap.size [.int .i64 n, .int .i64 d] := by rw [h]; exact box1 (Below.refl _ _)
  exact Lib.hid ⟨bthen hb h1.1 hb.size, h1.2, h1.1⟩
set_option maxRecDepth 20000 in
set_option maxHeartbeats 800000 in
theorem depth_impl (A : Option Addr) (n c : Nat) (l : List (Int × Int)) (x t : Int) (w : World) (hs : Spots w w.heap.size A n l) (hm : n ≤ maxLen) :
    Calls Try.prog 24 #[.slice A n c, .int .i64 x, .int .i64 t] w (RpPost l x t w) := by
  have HS := Lib.hid hs
  clear hs
  rcases hk : loK l t with _ | _
  · have HQ := Lib.hid (And.intro (lo_none hk) hk)
    have HR : Hid (rpK l x t = false) := by unfold Hid rpK; rw [hk]; rfl
    clear hk
    go_enter Try.func24, Try.ntmps24
    go_wp2_with fail
    refine (levelOf_v _ _ _ l t _ _ _ HQ.out.1.1 HQ.out.1.2 HQ.out.2 _ HS.out hm).mono ?_
    rintro e w1 ⟨rfl, hb⟩
    have HT := Lib.hid (hb.alloc hb.size (.cells #[.int .i64 0, .int .i64 0] 107))
    clear hb
    go_wp2_with fail
    go_ret2
    exact rp_no HR.out HT.out
  have hp := lo_parts hk
  have hbd := rl_bd hp.1 hp.2.1
  have hd0 := lv_bd hp.1 hp.2.1
  have hfl := rl_floor (l := l) (t := t) (by omega) x
  obtain ⟨N, hN⟩ : ∃ N, N = rlN l t := ⟨_, rfl⟩
  obtain ⟨D, hD⟩ : ∃ D, D = rlD l t := ⟨_, rfl⟩
  rw [← hN, ← hD] at hbd hp hfl
  have HQ := Lib.hid (And.intro hp.2.2 hk)
  have HF := Lib.hid hfl
  obtain ⟨⟨hb1, hb2⟩, hb3, hb4⟩ := hbd
  rcases hi : inB x 0 30000 with _ | _
  · have HR : Hid (rpK l x t = false) := by unfold Hid rpK; rw [hi, Bool.and_false]
    have HI := Lib.hid hi
    clear hk hp hfl hi hd0 hN hD
    go_enter Try.func24, Try.ntmps24
    go_wp2_with fail
    refine (levelOf_v _ _ _ l t _ _ _ HQ.out.1.1 HQ.out.1.2 HQ.out.2 _ HS.out hm).mono ?_
    rintro e w1 ⟨rfl, hb⟩
    obtain ⟨W0, hW0⟩ : ∃ W0, W0 = w1.alloc (.cells #[.int .i64 N, .int .i64 D] 107) := ⟨_, rfl⟩
    have HW := frac_box hb hW0
    have HE := Lib.hid hW0
    clear hb hW0
    go_wp2_with fail
    rw [← HE.out]
    refine (within_v _ _ _ _ HI.out _).mono ?_
    rintro e w' ⟨rfl, rfl⟩
    go_wp2_with fail
    go_ret2
    exact rp_no HR.out HW.out.1
  · have HR : Hid (rpK l x t = true) := by unfold Hid rpK; rw [hk, hi]; rfl
    have HI := Lib.hid hi
    have hx := inB_yes hi
    have hm1 := dep_bd (x := x) (d := D) hx hb2
    obtain ⟨hm11, hm12⟩ := hm1
    clear hk hp hfl hi hd0 hN hD
    go_enter Try.func24, Try.ntmps24
    go_wp2_with fail
    refine (levelOf_v _ _ _ l t _ _ _ HQ.out.1.1 HQ.out.1.2 HQ.out.2 _ HS.out hm).mono ?_
    rintro e w1 ⟨rfl, hb⟩
    obtain ⟨W0, hW0⟩ : ∃ W0, W0 = w1.alloc (.cells #[.int .i64 N, .int .i64 D] 107) := ⟨_, rfl⟩
    have HW := frac_box hb hW0
    have HE := Lib.hid hW0
    clear hb hW0
    have a0 := HW.out.2.1.at_ 0 _ rfl
    have a1 := HW.out.2.1.at_ 1 _ rfl
    go_wp2_with fail
    rw [← HE.out]
    refine (within_v _ _ _ _ HI.out _).mono ?_
    rintro e w' ⟨rfl, rfl⟩
    go_wp2_with fail
    refine (floor_impl _ D _ HF.out _ (by omega) (by omega) (by omega) (by omega)).mono ?_
    rintro e w2 ⟨rfl, hb⟩
    have HT := Lib.hid (bthen HW.out.1 hb HW.out.1.size)
    clear hb
    go_wp2_with fail
    go_ret2
    exact rp_yes HR.out rfl HT.out
set_option maxRecDepth 20000 in
set_option maxHeartbeats 800000 in
theorem depth_spec (A : Option Addr) (n c : Nat) (l : List (Int × Int)) (x t : Int) (w : World) (hs : Spots w w.heap.size A n l) (hm : n ≤ maxLen) :
    Calls Try.prog 25 #[.slice A n c, .int .i64 x, .int .i64 t] w (RpPost l x t w) := by
  have HS := Lib.hid hs
  clear hs
  rcases ha : askK l t with _ | _
  · have HR : Hid (rpK l x t = false) := by unfold Hid rpK loK; rw [ha]; rfl
    have HV := Lib.hid ha
    clear ha
    go_enter Try.func25, Try.ntmps25
    go_wp2_with fail
    refine (asked_spec _ _ _ l t _ HV.out _ HS.out hm).mono ?_
    rintro e w1 ⟨rfl, hb⟩
    have HB := Lib.hid hb
    clear hb
    go_wp2_with fail
    go_ret2
    exact rp_no HR.out HB.out
  have HV := Lib.hid ha
  rcases hi : inB x 0 30000 with _ | _
  · have HR : Hid (rpK l x t = false) := by unfold Hid rpK; rw [hi, Bool.and_false]
    have HI := Lib.hid hi
    clear ha hi
    go_enter Try.func25, Try.ntmps25
    go_wp2_with fail
    refine (asked_spec _ _ _ l t _ HV.out _ HS.out hm).mono ?_
    rintro e w1 ⟨rfl, hb⟩
    have HB := Lib.hid hb
    clear hb
    go_wp2_with fail
    refine (l1In_v _ _ _ _ HI.out _).mono ?_
    rintro e w' ⟨rfl, rfl⟩
    go_wp2_with fail
    go_ret2
    exact rp_no HR.out HB.out
  have HI := Lib.hid hi
  have hx := inB_yes hi
  rcases hk : lvK l t with _ | _
  · have HR : Hid (rpK l x t = false) := by unfold Hid rpK loK; rw [hk, Bool.and_false]; rfl
    have HQ : Hid (l4N l t = 0 ∧ l4D l t = 0 ∧ lvK l t = false) := by unfold Hid l4N l4D; rw [hk]; exact ⟨rfl, rfl, rfl⟩
    clear ha hk hi
    go_enter Try.func25, Try.ntmps25
    go_wp2_with fail
    refine (asked_spec _ _ _ l t _ HV.out _ HS.out hm).mono ?_
    rintro e w1 ⟨rfl, hb⟩
    have HB := Lib.hid hb
    have HS1 := Lib.hid (spots_at HS.out hb)
    clear hb
    go_wp2_with fail
    refine (l1In_v _ _ _ _ HI.out _).mono ?_
    rintro e w' ⟨rfl, rfl⟩
    go_wp2_with fail
    refine (asked_at _ _ _ l t _ _ _ HQ.out.1 HQ.out.2.1 HQ.out.2.2 _ HS1.out HV.out).mono ?_
    rintro e w2 ⟨rfl, hb⟩
    have HB2 := Lib.hid (bthen HB.out hb HB.out.size)
    clear hb
    go_wp2_with fail
    go_ret2
    exact rp_no HR.out HB2.out
  · have HR : Hid (rpK l x t = true) := by unfold Hid rpK loK; rw [ha, hk, hi]; rfl
    have HQ : Hid (l4N l t = lvN l t ∧ l4D l t = (lvD l t : Nat) ∧ lvK l t = true) := by unfold Hid l4N l4D; rw [hk]; exact ⟨rfl, rfl, rfl⟩
    have hbd := lv_bd (ask_yes ha).1 hk
    have HY : Hid (∀ v, (x * lvD l t - lvN l t) / (lvD l t : Int) = v → ∀ w', Below w.heap.size w w' → RpPost l x t w (.returned (.tuple #[.int .i64 v, .bool true])) w') := Lib.hid fun v h w' hb => rp_yes HR.out h hb
    clear ha hk hi
    obtain ⟨N, hN⟩ : ∃ N, N = lvN l t := ⟨_, rfl⟩
    obtain ⟨D, hD⟩ : ∃ D, D = lvD l t := ⟨_, rfl⟩
    rw [← hN, ← hD] at HQ hbd HY
    clear hN hD
    obtain ⟨⟨hb1, hb2⟩, hb3, hb4⟩ := hbd
    have hm1 := dep_bd (x := x) (d := D) hx hb2
    obtain ⟨hm11, hm12⟩ := hm1
    go_enter Try.func25, Try.ntmps25
    go_wp2_with fail
    refine (asked_spec _ _ _ l t _ HV.out _ HS.out hm).mono ?_
    rintro e w1 ⟨rfl, hb⟩
    have HB := Lib.hid hb
    have HS1 := Lib.hid (spots_at HS.out hb)
    clear hb
    go_wp2_with fail
    refine (l1In_v _ _ _ _ HI.out _).mono ?_
    rintro e w' ⟨rfl, rfl⟩
    go_wp2_with fail
    refine (asked_at _ _ _ l t _ _ _ HQ.out.1 HQ.out.2.1 HQ.out.2.2 _ HS1.out HV.out).mono ?_
    rintro e w2 ⟨rfl, hb⟩
    have HB2 := Lib.hid (bthen HB.out hb HB.out.size)
    clear hb
    go_wp2_with fail
    refine (floor_spec _ D _ rfl _ (by omega) (by omega) (by omega) (by omega)).mono ?_
    rintro e w3 ⟨rfl, hb⟩
    have HB3 := Lib.hid (bthen HB2.out hb HB2.out.size)
    clear hb
    go_wp2_with fail
    go_ret2
    exact HY.out _ rfl _ HB3.out
end Go.Proofs.Ytgbldmihbgppmaa
