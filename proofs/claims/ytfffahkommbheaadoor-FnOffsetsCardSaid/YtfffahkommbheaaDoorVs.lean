/-
  Seconds: contracts of impl.roundedUp, impl.SecondsFor, spec.l5Seconds, spec.l5Meters, spec.SecondsFor over this translation. Conditions: stated at each theorem.
-/
import Derived.Test.YtfffahkommbheaaDoorVv
import Derived.Test.YtfffahkommbheaaDoorFl
namespace Go.Proofs.YtfffahkommbheaaDoor
open Go.RowKit

theorem up_floor {a b : Int} (hb : 0 < b) : -((-a) / b) = (a + b - 1) / b := by
  have h1 := Int.emod_add_mul_ediv (-a) b
  have h2 := Int.emod_nonneg (-a) (show b ≠ 0 by omega)
  have h3 := Int.emod_lt_of_pos (-a) hb
  refine (((Int.ediv_emod_unique (a := a + b - 1) (b := b) (q := -((-a) / b)) (r := b - 1 - (-a) % b) hb).2 ⟨?_, by omega, by omega⟩).1).symm
  rw [Int.mul_neg]; omega
theorem up_bd {a b : Int} (h0 : 0 ≤ a) (hb : 0 < b) : 0 ≤ (a + b - 1) / b ∧ (a + b - 1) / b ≤ a + b - 1 := by
  refine ⟨Int.ediv_nonneg (by omega) (by omega), Int.ediv_le_self _ (by omega)⟩
theorem floor_int (a b v : Int) (h : a / b = v) (w : World) (h1 : -1000000000 ≤ a) (h2 : a ≤ 1000000000) (h3 : 0 < b) (h4 : b ≤ 1000000) :
    Calls Tryd.prog 40 #[.int .i64 a, .int .i64 b] w fun e w' => e = .returned (.int .i64 v) ∧ Below w.heap.size w w' := by
  obtain ⟨D, rfl⟩ : ∃ D : Nat, b = D := ⟨b.toNat, by omega⟩
  exact floor_impl a D v h w h1 h2 (by omega) (by omega)
theorem up_impl (a b v : Int) (h : (a + b - 1) / b = v) (w : World) (h1 : 0 ≤ a) (h2 : a ≤ 1000000000) (h3 : 0 < b) (h4 : b ≤ 1000000) :
    Calls Tryd.prog 28 #[.int .i64 a, .int .i64 b] w fun e w' => e = .returned (.int .i64 v) ∧ Below w.heap.size w w' := by
  have hv := up_bd h1 h3
  rw [h] at hv
  have H : Hid ((-a) / b = -v) := by
    unfold Hid
    have := up_floor (a := a) h3
    omega
  clear h
  go_enter Tryd.func28, Tryd.ntmps28
  go_wp2_with fail
  refine (floor_int (-a) b (-v) H.out _ (by omega) (by omega) h3 h4).mono ?_
  rintro e w1 ⟨rfl, hb⟩
  have HT := Lib.hid hb
  clear hb
  go_wp2_with fail
  go_ret
  exact ⟨ret_int (by omega), HT.out⟩
/-- In how many seconds the craft runs so many meters. -/
def secU (v : CC) (m : Int) : Int := (10 * m + v.sp - 1) / v.sp
def secK (v : CC) (m : Int) : Bool := craftB v && inB m 0 100000
def secV (v : CC) (m : Int) : Int := if secK v m then secU v m else 0
def SecPost (v : CC) (m : Int) (w : World) (e : Ending) (w' : World) : Prop :=
  e = .returned (.tuple #[.int .i64 (secV v m), .bool (secK v m)]) ∧ Below w.heap.size w w'
theorem sec_no {v : CC} {m : Int} {w w' : World} (hk : secK v m = false) (hb : Below w.heap.size w w') : SecPost v m w (.returned (.tuple #[.int .i64 0, .bool false])) w' :=
  ⟨by unfold secV; rw [hk]; rfl, hb⟩
theorem sec_yes {v : CC} {m x : Int} {w w' : World} (hk : secK v m = true) (hx : secU v m = x) (hb : Below w.heap.size w w') : SecPost v m w (.returned (.tuple #[.int .i64 x, .bool true])) w' :=
  ⟨by unfold secV; rw [hk, if_pos rfl, hx], hb⟩
theorem secU_lim {v : CC} {m : Int} (hv : craftB v = true) (hm : 0 ≤ m ∧ m ≤ 100000) : 0 ≤ secU v m ∧ secU v m ≤ 1000059 := by
  obtain ⟨_, _, _, _, hs, _⟩ := craftB_parts hv
  have := up_bd (a := 10 * m) (b := v.sp) (by omega) (by omega)
  unfold secU; omega
set_option maxHeartbeats 1600000 in
theorem secs_impl (v : CC) (m : Int) (w : World) (hn : v.nm.size ≤ maxLen) :
    Calls Tryd.prog 12 #[.agg #[.int .i64 v.id, .string v.nm, .int .i64 v.dr, .int .i64 v.ah, .int .i64 v.be, .int .i64 v.sp, .int .i64 v.fu], .int .i64 m] w (SecPost v m w) := by
  have HX := Lib.hid (box1 (cs := #[.int .i64 v.id, .string v.nm, .int .i64 v.dr, .int .i64 v.ah, .int .i64 v.be, .int .i64 v.sp, .int .i64 v.fu]) (T := 25) (Below.refl _ _) (w := w))
  rcases h0 : craftB v with _ | _
  · have HR : Hid (secK v m = false) := by unfold Hid secK; rw [h0]; rfl
    have H0 := Lib.hid h0
    clear h0
    go_enter Tryd.func12, Tryd.ntmps12
    go_wp2_with fail
    refine (isCraft_v v _ H0.out _ hn).mono ?_
    rintro e w1 ⟨rfl, hb⟩
    have HT := Lib.hid (bthen HX.out.1 hb HX.out.1.size)
    clear hb
    go_wp2_with fail
    go_ret2
    exact sec_no HR.out HT.out
  rcases h1 : inB m 0 100000 with _ | _
  · have HR : Hid (secK v m = false) := by unfold Hid secK; rw [h0, h1]; rfl
    have H0 := Lib.hid h0
    have H1 := Lib.hid h1
    clear h0 h1
    go_enter Tryd.func12, Tryd.ntmps12
    go_wp2_with fail
    refine (isCraft_v v _ H0.out _ hn).mono ?_
    rintro e w1 ⟨rfl, hb⟩
    have HT := Lib.hid (bthen HX.out.1 hb HX.out.1.size)
    clear hb
    go_wp2_with fail
    refine (within_v _ _ _ _ H1.out _).mono ?_
    rintro e w' ⟨rfl, rfl⟩
    go_wp2_with fail
    go_ret2
    exact sec_no HR.out HT.out
  have HR : Hid (secK v m = true) := by unfold Hid secK; rw [h0, h1]; rfl
  obtain ⟨m1, m2⟩ := inB_yes h1
  obtain ⟨_, _, _, _, ⟨s1, s2⟩, _⟩ := craftB_parts h0
  have H0 := Lib.hid h0
  have H1 := Lib.hid h1
  clear h0 h1
  go_enter Tryd.func12, Tryd.ntmps12
  go_wp2_with fail
  refine (isCraft_v v _ H0.out _ hn).mono ?_
  rintro e w1 ⟨rfl, hb⟩
  have HT := Lib.hid (bthen HX.out.1 hb HX.out.1.size)
  have a5 := (HX.out.2.next hb).at_ 5 _ rfl
  clear hb
  go_wp2_with fail
  refine (within_v _ _ _ _ H1.out _).mono ?_
  rintro e w' ⟨rfl, rfl⟩
  go_wp2_with fail
  refine (up_impl (10 * m) v.sp (secU v m) rfl _ (by omega) (by omega) (by omega) (by omega)).mono ?_
  rintro e w2 ⟨rfl, hb⟩
  have HT2 := Lib.hid (bthen HT.out hb HT.out.size)
  clear hb a5
  go_wp2_with fail
  go_ret2
  exact sec_yes HR.out rfl HT2.out
theorem secs_v (v : CC) (m x : Int) (k : Bool) (hx : secV v m = x) (hk : secK v m = k) (w : World) (hn : v.nm.size ≤ maxLen) :
    Calls Tryd.prog 12 #[.agg #[.int .i64 v.id, .string v.nm, .int .i64 v.dr, .int .i64 v.ah, .int .i64 v.be, .int .i64 v.sp, .int .i64 v.fu], .int .i64 m] w fun e w' => e = .returned (.tuple #[.int .i64 x, .bool k]) ∧ Below w.heap.size w w' := by
  subst hx hk
  exact secs_impl v m w hn
/-! ### The specification -/
theorem meters_v (m : Int) (b : Bool) (h : inB m 0 100000 = b) (w : World) :
    Calls Tryd.prog 30 #[.int .i64 m] w fun e w' => e = .returned (.bool b) ∧ w = w' := by
  have H := Lib.hid h
  clear h
  go_enter Tryd.func30, Tryd.ntmps30
  go_wp2_with fail
  refine (l1In_v _ _ _ _ H.out _).mono ?_
  rintro e w' ⟨rfl, rfl⟩
  go_wp2_with fail
  go_ret
  exact ⟨rfl, rfl⟩
set_option maxHeartbeats 1600000 in
theorem seconds_any (v : CC) (m x : Int) (hx : secU v m = x) (w : World) (hv : craftB v = true) (hm : inB m 0 100000 = true) :
    Calls Tryd.prog 31 #[.agg #[.int .i64 v.id, .string v.nm, .int .i64 v.dr, .int .i64 v.ah, .int .i64 v.be, .int .i64 v.sp, .int .i64 v.fu], .int .i64 m] w fun e w' => e = .returned (.int .i64 x) ∧ Below w.heap.size w w' := by
  obtain ⟨m1, m2⟩ := inB_yes hm
  obtain ⟨_, _, _, _, ⟨s1, s2⟩, _⟩ := craftB_parts hv
  obtain ⟨id, nm, dr, ah, be, sp, fu⟩ := v
  simp only [secU] at *
  obtain ⟨D, rfl⟩ : ∃ D : Nat, sp = D := ⟨sp.toNat, by omega⟩
  obtain ⟨N, hN⟩ : ∃ N : Nat, 10 * m + (D : Int) - 1 = N := ⟨(10 * m + (D : Int) - 1).toNat, by omega⟩
  have HX := Lib.hid hx
  rw [hN] at HX
  have hd2 : 0 ≤ (N : Int) / (D : Int) ∧ (N : Int) / (D : Int) ≤ 1000000000000 := ediv_bd (by omega)
  obtain ⟨hd21, hd22⟩ := hd2
  have hn0 : ((D : Int) == 0) = false := beq_eq_false_iff_ne.2 (by omega)
  have hw2 : wrap64 ((N : Int) / (D : Int)) = (N : Int) / (D : Int) := by unfold wrap64; omega
  clear hx hv hm
  go_enter Tryd.func31, Tryd.ntmps31
  go_wp2_with fail
  go_ret
  exact ⟨ret_int HX.out, (Below.refl _ _).alloc (Nat.le_refl _) _⟩
set_option maxHeartbeats 1600000 in
theorem secs_spec (v : CC) (m : Int) (w : World) (hn : v.nm.size ≤ maxLen) :
    Calls Tryd.prog 13 #[.agg #[.int .i64 v.id, .string v.nm, .int .i64 v.dr, .int .i64 v.ah, .int .i64 v.be, .int .i64 v.sp, .int .i64 v.fu], .int .i64 m] w (SecPost v m w) := by
  have HX := Lib.hid (box1 (cs := #[.int .i64 v.id, .string v.nm, .int .i64 v.dr, .int .i64 v.ah, .int .i64 v.be, .int .i64 v.sp, .int .i64 v.fu]) (T := 25) (Below.refl _ _) (w := w))
  rcases h0 : craftB v with _ | _
  · have HR : Hid (secK v m = false) := by unfold Hid secK; rw [h0]; rfl
    have H0 := Lib.hid h0
    clear h0
    go_enter Tryd.func13, Tryd.ntmps13
    go_wp2_with fail
    refine (craftOne_v v _ H0.out _ hn).mono ?_
    rintro e w1 ⟨rfl, hb⟩
    have HT := Lib.hid (bthen HX.out.1 hb HX.out.1.size)
    clear hb
    go_wp2_with fail
    go_ret2
    exact sec_no HR.out HT.out
  rcases h1 : inB m 0 100000 with _ | _
  · have HR : Hid (secK v m = false) := by unfold Hid secK; rw [h0, h1]; rfl
    have H0 := Lib.hid h0
    have H1 := Lib.hid h1
    clear h0 h1
    go_enter Tryd.func13, Tryd.ntmps13
    go_wp2_with fail
    refine (craftOne_v v _ H0.out _ hn).mono ?_
    rintro e w1 ⟨rfl, hb⟩
    have HT := Lib.hid (bthen HX.out.1 hb HX.out.1.size)
    clear hb
    go_wp2_with fail
    refine (meters_v _ _ H1.out _).mono ?_
    rintro e w' ⟨rfl, rfl⟩
    go_wp2_with fail
    go_ret2
    exact sec_no HR.out HT.out
  have HR : Hid (secK v m = true) := by unfold Hid secK; rw [h0, h1]; rfl
  have H0 := Lib.hid h0
  have H1 := Lib.hid h1
  clear h0 h1
  go_enter Tryd.func13, Tryd.ntmps13
  go_wp2_with fail
  refine (craftOne_v v _ H0.out _ hn).mono ?_
  rintro e w1 ⟨rfl, hb⟩
  have HT := Lib.hid (bthen HX.out.1 hb HX.out.1.size)
  have HX1 := Lib.hid (HX.out.2.next hb)
  clear hb
  go_wp2_with fail
  refine (meters_v _ _ H1.out _).mono ?_
  rintro e w' ⟨rfl, rfl⟩
  have a0 := HX1.out.at_ 0 _ rfl
  have a1 := HX1.out.at_ 1 _ rfl
  have a2 := HX1.out.at_ 2 _ rfl
  have a3 := HX1.out.at_ 3 _ rfl
  have a4 := HX1.out.at_ 4 _ rfl
  have a5 := HX1.out.at_ 5 _ rfl
  have a6 := HX1.out.at_ 6 _ rfl
  go_wp2_with fail
  refine (seconds_any v m (secU v m) rfl _ H0.out H1.out).mono ?_
  rintro e w2 ⟨rfl, hb⟩
  have HT2 := Lib.hid (bthen HT.out hb HT.out.size)
  clear hb a0 a1 a2 a3 a4 a5 a6
  go_wp2_with fail
  go_ret2
  exact sec_yes HR.out rfl HT2.out
end Go.Proofs.YtfffahkommbheaaDoor
