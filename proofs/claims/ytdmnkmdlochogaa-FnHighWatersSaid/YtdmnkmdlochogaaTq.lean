/-
  Reduced depths: contracts of impl.roundedDown, spec.l4Floor, impl.ReducedDepth, spec.ReducedDepth over this translation. Conditions: stated at each theorem.
-/
import Derived.Test.YtdmnkmdlochogaaTf
namespace Go.Proofs.Ytdmnkmdlochogaa
open Go.RowKit

/-! ### ReducedDepth -/
def rpK (l : List (Int × Int)) (x t : Int) : Bool := loK l t && inB x 0 30000
def rpV (l : List (Int × Int)) (x t : Int) : Int := if rpK l x t then (x * lvD l t - lvN l t) / (lvD l t : Int) else 0
def RpPost (l : List (Int × Int)) (x t : Int) (w : World) (e : Ending) (w' : World) : Prop :=
  e = .returned (.tuple #[.int .i64 (rpV l x t), .bool (rpK l x t)]) ∧ Below w.heap.size w w'
theorem rp_no {l : List (Int × Int)} {x t : Int} {w w' : World} (h : rpK l x t = false) (hb : Below w.heap.size w w') : RpPost l x t w (.returned (.tuple #[.int .i64 0, .bool false])) w' :=
  ⟨by unfold rpV; rw [h]; rfl, hb⟩
theorem rp_yes {l : List (Int × Int)} {x t v : Int} {w w' : World} (h : rpK l x t = true) (hv : (x * lvD l t - lvN l t) / (lvD l t : Int) = v) (hb : Below w.heap.size w w') : RpPost l x t w (.returned (.tuple #[.int .i64 v, .bool true])) w' :=
  ⟨by unfold rpV; rw [h, if_pos rfl, hv], hb⟩
theorem dep_bd {x : Int} {d : Nat} (h1 : 0 ≤ x ∧ x ≤ 30000) (h2 : d ≤ 60) : 0 ≤ x * (d : Int) ∧ x * (d : Int) ≤ 1800000 := by
  have a := Int.mul_le_mul_of_nonneg_right h1.2 (Int.natCast_nonneg d)
  exact ⟨Int.mul_nonneg h1.1 (Int.natCast_nonneg d), by omega⟩
theorem levelOf_v (A : Option Addr) (n c : Nat) (l : List (Int × Int)) (t n0 d0 : Int) (k : Bool) (hn : loN l t = n0) (hd : loD l t = d0) (hk : loK l t = k) (w : World) (hs : Spots w w.heap.size A n l) (hm : n ≤ maxLen) :
    Calls Try.prog 102 #[.slice A n c, .int .i64 t] w fun e w' => e = .returned (.tuple #[.agg #[.int .i64 n0, .int .i64 d0], .bool k]) ∧ Below w.heap.size w w' := by
  subst hn hd hk
  exact levelOf_impl A n c l t w hs hm
theorem lo_parts {l : List (Int × Int)} {t : Int} (h : loK l t = true) : tideB l = true ∧ lvK l t = true ∧ loN l t = rlN l t ∧ loD l t = (rlD l t : Int) := by
  have h' := h
  unfold loK at h'
  rw [Bool.and_eq_true] at h'
  exact ⟨(ask_yes h'.1).1, h'.2, by unfold loN; rw [h]; rfl, by unfold loD; rw [h]; rfl⟩
theorem lo_none {l : List (Int × Int)} {t : Int} (h : loK l t = false) : loN l t = 0 ∧ loD l t = 0 := by unfold loN loD; rw [h]; exact ⟨rfl, rfl⟩
/-- A fraction in a block of its own. -/
theorem frac_box {w w1 W0 : World} {n d : Int} (hb : Below w.heap.size w w1) (h : W0 = w1.alloc (.cells #[.int .i64 n, .int .i64 d] 124)) :
    Hid (Below w.heap.size w W0 ∧ Has W0 w1.heap.size [.int .i64 n, .int .i64 d] ∧ Below w1.heap.size w1 W0) := by
  have h1 : Below w1.heap.size w1 W0 ∧ Has W0 w1.heap.size [.int .i64 n, .int .i64 d] := by rw [h]; exact box1 (Below.refl _ _)
  exact Lib.hid ⟨bthen hb h1.1 hb.size, h1.2, h1.1⟩
set_option maxRecDepth 20000 in
set_option maxHeartbeats 800000 in
theorem depth_impl (A : Option Addr) (n c : Nat) (l : List (Int × Int)) (x t : Int) (w : World) (hs : Spots w w.heap.size A n l) (hm : n ≤ maxLen) :
    Calls Try.prog 38 #[.slice A n c, .int .i64 x, .int .i64 t] w (RpPost l x t w) := by
  have HS := Lib.hid hs
  clear hs
  rcases hk : loK l t with _ | _
  · have HQ := Lib.hid (And.intro (lo_none hk) hk)
    have HR : Hid (rpK l x t = false) := by unfold Hid rpK; rw [hk]; rfl
    clear hk
    go_enter Try.func38, Try.ntmps38
    go_wp2_with fail
    refine (levelOf_v _ _ _ l t _ _ _ HQ.out.1.1 HQ.out.1.2 HQ.out.2 _ HS.out hm).mono ?_
    rintro e w1 ⟨rfl, hb⟩
    have HT := Lib.hid (hb.alloc hb.size (.cells #[.int .i64 0, .int .i64 0] 124))
    clear hb
    go_wp2_with fail
    go_ret2
    exact rp_no HR.out HT.out
  have hp := lo_parts hk
  have hbd := rl_bd hp.1 hp.2.1
  have hd0 := lv_bd hp.1 hp.2.1
  have hfl := rl_floor (l := l) (t := t) (by omega) x
  obtain ⟨N, hN⟩ : ∃ N, N = rlN l t := ⟨_, rfl⟩
  obtain ⟨D, hD⟩ : ∃ D, D = rlD l t := ⟨_, rfl⟩
  rw [← hN, ← hD] at hbd hp hfl
  have HQ := Lib.hid (And.intro hp.2.2 hk)
  have HF := Lib.hid hfl
  obtain ⟨⟨hb1, hb2⟩, hb3, hb4⟩ := hbd
  rcases hi : inB x 0 30000 with _ | _
  · have HR : Hid (rpK l x t = false) := by unfold Hid rpK; rw [hi, Bool.and_false]
    have HI := Lib.hid hi
    clear hk hp hfl hi hd0 hN hD
    go_enter Try.func38, Try.ntmps38
    go_wp2_with fail
    refine (levelOf_v _ _ _ l t _ _ _ HQ.out.1.1 HQ.out.1.2 HQ.out.2 _ HS.out hm).mono ?_
    rintro e w1 ⟨rfl, hb⟩
    obtain ⟨W0, hW0⟩ : ∃ W0, W0 = w1.alloc (.cells #[.int .i64 N, .int .i64 D] 124) := ⟨_, rfl⟩
    have HW := frac_box hb hW0
    have HE := Lib.hid hW0
    clear hb hW0
    go_wp2_with fail
    rw [← HE.out]
    refine (within_v _ _ _ _ HI.out _).mono ?_
    rintro e w' ⟨rfl, rfl⟩
    go_wp2_with fail
    go_ret2
    exact rp_no HR.out HW.out.1
  · have HR : Hid (rpK l x t = true) := by unfold Hid rpK; rw [hk, hi]; rfl
    have HI := Lib.hid hi
    have hx := inB_yes hi
    have hm1 := dep_bd (x := x) (d := D) hx hb2
    obtain ⟨hm11, hm12⟩ := hm1
    clear hk hp hfl hi hd0 hN hD
    go_enter Try.func38, Try.ntmps38
    go_wp2_with fail
    refine (levelOf_v _ _ _ l t _ _ _ HQ.out.1.1 HQ.out.1.2 HQ.out.2 _ HS.out hm).mono ?_
    rintro e w1 ⟨rfl, hb⟩
    obtain ⟨W0, hW0⟩ : ∃ W0, W0 = w1.alloc (.cells #[.int .i64 N, .int .i64 D] 124) := ⟨_, rfl⟩
    have HW := frac_box hb hW0
    have HE := Lib.hid hW0
    clear hb hW0
    have a0 := HW.out.2.1.at_ 0 _ rfl
    have a1 := HW.out.2.1.at_ 1 _ rfl
    go_wp2_with fail
    rw [← HE.out]
    refine (within_v _ _ _ _ HI.out _).mono ?_
    rintro e w' ⟨rfl, rfl⟩
    go_wp2_with fail
    refine (floor_impl _ D _ HF.out _ (by omega) (by omega) (by omega) (by omega)).mono ?_
    rintro e w2 ⟨rfl, hb⟩
    have HT := Lib.hid (bthen HW.out.1 hb HW.out.1.size)
    clear hb
    go_wp2_with fail
    go_ret2
    exact rp_yes HR.out rfl HT.out
set_option maxRecDepth 20000 in
set_option maxHeartbeats 800000 in
theorem depth_spec (A : Option Addr) (n c : Nat) (l : List (Int × Int)) (x t : Int) (w : World) (hs : Spots w w.heap.size A n l) (hm : n ≤ maxLen) :
    Calls Try.prog 39 #[.slice A n c, .int .i64 x, .int .i64 t] w (RpPost l x t w) := by
  have HS := Lib.hid hs
  clear hs
  rcases ha : askK l t with _ | _
  · have HR : Hid (rpK l x t = false) := by unfold Hid rpK loK; rw [ha]; rfl
    have HV := Lib.hid ha
    clear ha
    go_enter Try.func39, Try.ntmps39
    go_wp2_with fail
    refine (asked_spec _ _ _ l t _ HV.out _ HS.out hm).mono ?_
    rintro e w1 ⟨rfl, hb⟩
    have HB := Lib.hid hb
    clear hb
    go_wp2_with fail
    go_ret2
    exact rp_no HR.out HB.out
  have HV := Lib.hid ha
  rcases hi : inB x 0 30000 with _ | _
  · have HR : Hid (rpK l x t = false) := by unfold Hid rpK; rw [hi, Bool.and_false]
    have HI := Lib.hid hi
    clear ha hi
    go_enter Try.func39, Try.ntmps39
    go_wp2_with fail
    refine (asked_spec _ _ _ l t _ HV.out _ HS.out hm).mono ?_
    rintro e w1 ⟨rfl, hb⟩
    have HB := Lib.hid hb
    clear hb
    go_wp2_with fail
    refine (l1In_v _ _ _ _ HI.out _).mono ?_
    rintro e w' ⟨rfl, rfl⟩
    go_wp2_with fail
    go_ret2
    exact rp_no HR.out HB.out
  have HI := Lib.hid hi
  have hx := inB_yes hi
  rcases hk : lvK l t with _ | _
  · have HR : Hid (rpK l x t = false) := by unfold Hid rpK loK; rw [hk, Bool.and_false]; rfl
    have HQ : Hid (l4N l t = 0 ∧ l4D l t = 0 ∧ lvK l t = false) := by unfold Hid l4N l4D; rw [hk]; exact ⟨rfl, rfl, rfl⟩
    clear ha hk hi
    go_enter Try.func39, Try.ntmps39
    go_wp2_with fail
    refine (asked_spec _ _ _ l t _ HV.out _ HS.out hm).mono ?_
    rintro e w1 ⟨rfl, hb⟩
    have HB := Lib.hid hb
    have HS1 := Lib.hid (spots_at HS.out hb)
    clear hb
    go_wp2_with fail
    refine (l1In_v _ _ _ _ HI.out _).mono ?_
    rintro e w' ⟨rfl, rfl⟩
    go_wp2_with fail
    refine (asked_at _ _ _ l t _ _ _ HQ.out.1 HQ.out.2.1 HQ.out.2.2 _ HS1.out HV.out).mono ?_
    rintro e w2 ⟨rfl, hb⟩
    have HB2 := Lib.hid (bthen HB.out hb HB.out.size)
    clear hb
    go_wp2_with fail
    go_ret2
    exact rp_no HR.out HB2.out
  · have HR : Hid (rpK l x t = true) := by unfold Hid rpK loK; rw [ha, hk, hi]; rfl
    have HQ : Hid (l4N l t = lvN l t ∧ l4D l t = (lvD l t : Nat) ∧ lvK l t = true) := by unfold Hid l4N l4D; rw [hk]; exact ⟨rfl, rfl, rfl⟩
    have hbd := lv_bd (ask_yes ha).1 hk
    have HY : Hid (∀ v, (x * lvD l t - lvN l t) / (lvD l t : Int) = v → ∀ w', Below w.heap.size w w' → RpPost l x t w (.returned (.tuple #[.int .i64 v, .bool true])) w') := Lib.hid fun v h w' hb => rp_yes HR.out h hb
    clear ha hk hi
    obtain ⟨N, hN⟩ : ∃ N, N = lvN l t := ⟨_, rfl⟩
    obtain ⟨D, hD⟩ : ∃ D, D = lvD l t := ⟨_, rfl⟩
    rw [← hN, ← hD] at HQ hbd HY
    clear hN hD
    obtain ⟨⟨hb1, hb2⟩, hb3, hb4⟩ := hbd
    have hm1 := dep_bd (x := x) (d := D) hx hb2
    obtain ⟨hm11, hm12⟩ := hm1
    go_enter Try.func39, Try.ntmps39
    go_wp2_with fail
    refine (asked_spec _ _ _ l t _ HV.out _ HS.out hm).mono ?_
    rintro e w1 ⟨rfl, hb⟩
    have HB := Lib.hid hb
    have HS1 := Lib.hid (spots_at HS.out hb)
    clear hb
    go_wp2_with fail
    refine (l1In_v _ _ _ _ HI.out _).mono ?_
    rintro e w' ⟨rfl, rfl⟩
    go_wp2_with fail
    refine (asked_at _ _ _ l t _ _ _ HQ.out.1 HQ.out.2.1 HQ.out.2.2 _ HS1.out HV.out).mono ?_
    rintro e w2 ⟨rfl, hb⟩
    have HB2 := Lib.hid (bthen HB.out hb HB.out.size)
    clear hb
    go_wp2_with fail
    refine (floor_spec _ D _ rfl _ (by omega) (by omega) (by omega) (by omega)).mono ?_
    rintro e w3 ⟨rfl, hb⟩
    have HB3 := Lib.hid (bthen HB2.out hb HB2.out.size)
    clear hb
    go_wp2_with fail
    go_ret2
    exact HY.out _ rfl _ HB3.out
end Go.Proofs.Ytdmnkmdlochogaa
