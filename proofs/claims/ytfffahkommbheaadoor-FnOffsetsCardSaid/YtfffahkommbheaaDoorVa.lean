/-
  Where the sounder and the antenna are: contracts of impl.offsetOf, impl.SounderAt, impl.AntennaFor, spec.l5Turned, spec.l5Place, spec.SounderAt, spec.AntennaFor over this translation. Conditions: stated at each theorem.
-/
import Derived.Test.YtfffahkommbheaaDoorVv
import Derived.Test.YtfffahkommbheaaDoorTw
namespace Go.Proofs.YtfffahkommbheaaDoor
open Go.RowKit

/-- How far the sounder lies to the east and to the north after so many quarters to the right. -/
def offC (v : CC) : Nat → Int × Int
  | 0 => (v.be, v.ah)
  | k + 1 => ((offC v k).2, -(offC v k).1)
theorem offC_lim {v : CC} (h : craftB v = true) (k : Nat) : (-500 ≤ (offC v k).1 ∧ (offC v k).1 ≤ 500) ∧ (-500 ≤ (offC v k).2 ∧ (offC v k).2 ≤ 500) := by
  obtain ⟨_, _, ha, hb, _⟩ := craftB_parts h
  induction k with
  | zero => simp only [offC]; omega
  | succ k ih => simp only [offC]; omega
theorem offC_1 (v : CC) : offC v 1 = (v.ah, -v.be) := rfl
theorem offC_2 (v : CC) : offC v 2 = (-v.be, -v.ah) := rfl
theorem offC_3 (v : CC) : offC v 3 = (-v.ah, v.be) := by simp [offC]
def offR (v : CC) (h : Int) : Int × Int × Bool := if craftB v && inB h 0 3 then ((offC v h.toNat).1, (offC v h.toNat).2, true) else (0, 0, false)
theorem ret_off {a b c d : Int} {k l : Bool} (h : (a, b, k) = (c, d, l)) : Ending.returned (.tuple #[.int .i64 a, .int .i64 b, .bool k]) = .returned (.tuple #[.int .i64 c, .int .i64 d, .bool l]) := by
  injection h with h1 h2; injection h2 with h2 h3; rw [h1, h2, h3]
set_option maxHeartbeats 1600000 in
theorem off_impl (v : CC) (h : Int) (w : World) (hn : v.nm.size ≤ maxLen) :
    Calls Tryd.prog 23 #[.agg #[.int .i64 v.id, .string v.nm, .int .i64 v.dr, .int .i64 v.ah, .int .i64 v.be, .int .i64 v.sp, .int .i64 v.fu], .int .i64 h] w fun e w' => e = .returned (.tuple #[.int .i64 (offR v h).1, .int .i64 (offR v h).2.1, .bool (offR v h).2.2]) ∧ Below w.heap.size w w' := by
  have HX := Lib.hid (box1 (cs := #[.int .i64 v.id, .string v.nm, .int .i64 v.dr, .int .i64 v.ah, .int .i64 v.be, .int .i64 v.sp, .int .i64 v.fu]) (T := 25) (Below.refl _ _) (w := w))
  rcases h0 : craftB v with _ | _
  · have HR : Hid (((0 : Int), (0 : Int), false) = ((offR v h).1, (offR v h).2.1, (offR v h).2.2)) := by unfold Hid offR; rw [h0]; rfl
    have H0 := Lib.hid h0
    clear h0
    go_enter Tryd.func23, Tryd.ntmps23
    go_wp2_with fail
    refine (isCraft_v v _ H0.out _ hn).mono ?_
    rintro e w1 ⟨rfl, hb⟩
    have HT := Lib.hid (bthen HX.out.1 hb HX.out.1.size)
    clear hb
    go_wp2_with fail
    go_ret3
    exact ⟨ret_off HR.out, HT.out⟩
  rcases h1 : inB h 0 3 with _ | _
  · have HR : Hid (((0 : Int), (0 : Int), false) = ((offR v h).1, (offR v h).2.1, (offR v h).2.2)) := by unfold Hid offR; rw [h0, h1]; rfl
    have H0 := Lib.hid h0
    have H1 := Lib.hid h1
    clear h0 h1
    go_enter Tryd.func23, Tryd.ntmps23
    go_wp2_with fail
    refine (isCraft_v v _ H0.out _ hn).mono ?_
    rintro e w1 ⟨rfl, hb⟩
    have HT := Lib.hid (bthen HX.out.1 hb HX.out.1.size)
    clear hb
    go_wp2_with fail
    refine (within_v _ _ _ _ H1.out _).mono ?_
    rintro e w' ⟨rfl, rfl⟩
    go_wp2_with fail
    go_ret3
    exact ⟨ret_off HR.out, HT.out⟩
  have HR : Hid (((offC v h.toNat).1, (offC v h.toNat).2, true) = ((offR v h).1, (offR v h).2.1, (offR v h).2.2)) := by unfold Hid offR; rw [h0, h1]; rfl
  have hl := inB_yes h1
  have H0 := Lib.hid h0
  have H1 := Lib.hid h1
  clear h0 h1
  obtain ⟨m, rfl⟩ : ∃ m : Nat, h = m := ⟨h.toNat, by omega⟩
  have hm : m ≤ 3 := by omega
  rw [Int.toNat_natCast] at HR
  clear hl
  go_enter Tryd.func23, Tryd.ntmps23
  go_wp2_with fail
  refine (isCraft_v v _ H0.out _ hn).mono ?_
  rintro e w1 ⟨rfl, hb⟩
  have HT := Lib.hid (bthen HX.out.1 hb HX.out.1.size)
  have HW := Lib.hid (HX.out.2.next hb)
  clear hb
  go_wp2_with fail
  refine (within_v _ _ _ _ H1.out _).mono ?_
  rintro e w' ⟨rfl, rfl⟩
  go_wp2_with fail
  have a3 := HW.out.at_ 3 _ rfl
  have a4 := HW.out.at_ 4 _ rfl
  have lc0 := lcell (a3)
  have lc1 := lcell (a4)
  refine region_later (W := w1) (by kernel_rfl) (by kernel_rfl) (Below.refl _ _) ?_
  repeat (go_big_quiet_step (fail))
  refine wpQuiet_nil ?_
  intro W2 hW1
  have HL : Hid (Below w1.heap.size w1 W2) := by obtain ⟨x, rfl⟩ := hW1; exact Lib.hid x.below
  clear hW1 lc0 lc1
  have HT2 := Lib.hid (bthen HT.out HL.out HT.out.size)
  clear a3 a4
  go_wp2_with fail
  go_loop [7, 8, 22] (fun x y i => ∃ k : Nat, k ≤ m ∧ i = .int .i64 k ∧ x = .int .i64 (offC v k).1 ∧ y = .int .i64 (offC v k).2) (fun _ _ i => m - (intOf i).toNat)
  case atStart => exact ⟨0, Nat.zero_le _, rfl, rfl, rfl⟩
  case round =>
    obtain ⟨k, hk, rfl, rfl, rfl⟩ := hrel
    by_cases hlt : k < m
    · have hb := offC_lim H0.out k
      go_wp2_with fail
      go_round
      case rel => exact ⟨k + 1, by omega, by go_num, by first | rfl | (simp only [offC]; try go_num), by first | rfl | (simp only [offC]; try go_num)⟩
      case measure => simp [intOf]; omega
    · obtain rfl : k = m := by omega
      go_wp2_with fail
      go_ret3
      exact ⟨ret_off HR.out, HT2.out⟩
theorem off_v (v : CC) (h E N : Int) (K : Bool) (he : offR v h = (E, N, K)) (w : World) (hn : v.nm.size ≤ maxLen) :
    Calls Tryd.prog 23 #[.agg #[.int .i64 v.id, .string v.nm, .int .i64 v.dr, .int .i64 v.ah, .int .i64 v.be, .int .i64 v.sp, .int .i64 v.fu], .int .i64 h] w fun e w' => e = .returned (.tuple #[.int .i64 E, .int .i64 N, .bool K]) ∧ Below w.heap.size w w' := by
  have := off_impl v h w hn
  rw [he] at this
  exact this
/-! ### The specification's turn -/
set_option maxHeartbeats 1600000 in
theorem turned_any (v : CC) (m : Nat) (w : World) (hv : craftB v = true) (hm : m ≤ 3) :
    Calls Tryd.prog 26 #[.agg #[.int .i64 v.id, .string v.nm, .int .i64 v.dr, .int .i64 v.ah, .int .i64 v.be, .int .i64 v.sp, .int .i64 v.fu], .int .i64 m] w fun e w' => e = .returned (.tuple #[.int .i64 (offC v m).1, .int .i64 (offC v m).2]) ∧ Below w.heap.size w w' := by
  obtain ⟨W0, hW0⟩ : ∃ W0, W0 = w.alloc (.cells #[.int .i64 v.id, .string v.nm, .int .i64 v.dr, .int .i64 v.ah, .int .i64 v.be, .int .i64 v.sp, .int .i64 v.fu] 25) := ⟨_, rfl⟩
  have HX : Hid (Below w.heap.size w W0 ∧ Has W0 w.heap.size [.int .i64 v.id, .string v.nm, .int .i64 v.dr, .int .i64 v.ah, .int .i64 v.be, .int .i64 v.sp, .int .i64 v.fu]) := by rw [hW0]; exact Lib.hid (box1 (Below.refl _ _))
  have a3 := HX.out.2.at_ 3 _ rfl
  have a4 := HX.out.2.at_ 4 _ rfl
  obtain ⟨_, _, ha, hb, _⟩ := craftB_parts hv
  have HE := Lib.hid hW0
  clear hW0
  obtain rfl | rfl | rfl | rfl : m = 0 ∨ m = 1 ∨ m = 2 ∨ m = 3 := by omega
  · have HR : Hid (offC v 0 = (v.be, v.ah)) := rfl
    go_enter Tryd.func26, Tryd.ntmps26
    go_wp2_with fail
    rw [← HE.out]
    have lc0 := lcell (a3)
    have lc1 := lcell (a4)
    refine region_later (W := W0) (by kernel_rfl) (by kernel_rfl) (Below.refl _ _) ?_
    repeat (go_big_quiet_step (fail))
    refine wpQuiet_nil ?_
    intro W2 hW1
    have HL : Hid (Below W0.heap.size W0 W2) := by obtain ⟨x, rfl⟩ := hW1; exact Lib.hid x.below
    clear hW1 lc0 lc1
    have HT2 := Lib.hid (bthen HX.out.1 HL.out HX.out.1.size)
    clear a3 a4
    go_wp2_with fail
    go_ret2
    exact ⟨by rw [HR.out]; rfl, HT2.out⟩
  · have HR : Hid (offC v 1 = (v.ah, -v.be)) := rfl
    go_enter Tryd.func26, Tryd.ntmps26
    go_wp2_with fail
    rw [← HE.out]
    have lc0 := lcell (a3)
    have lc1 := lcell (a4)
    refine region_later (W := W0) (by kernel_rfl) (by kernel_rfl) (Below.refl _ _) ?_
    repeat (go_big_quiet_step (fail))
    refine wpQuiet_nil ?_
    intro W2 hW1
    have HL : Hid (Below W0.heap.size W0 W2) := by obtain ⟨x, rfl⟩ := hW1; exact Lib.hid x.below
    clear hW1 lc0 lc1
    have HT2 := Lib.hid (bthen HX.out.1 HL.out HX.out.1.size)
    clear a3 a4
    go_wp2_with fail
    go_ret2
    exact ⟨by rw [HR.out]; rfl, HT2.out⟩
  · have HR : Hid (offC v 2 = (-v.be, -v.ah)) := rfl
    go_enter Tryd.func26, Tryd.ntmps26
    go_wp2_with fail
    rw [← HE.out]
    have lc0 := lcell (a3)
    have lc1 := lcell (a4)
    refine region_later (W := W0) (by kernel_rfl) (by kernel_rfl) (Below.refl _ _) ?_
    repeat (go_big_quiet_step (fail))
    refine wpQuiet_nil ?_
    intro W2 hW1
    have HL : Hid (Below W0.heap.size W0 W2) := by obtain ⟨x, rfl⟩ := hW1; exact Lib.hid x.below
    clear hW1 lc0 lc1
    have HT2 := Lib.hid (bthen HX.out.1 HL.out HX.out.1.size)
    clear a3 a4
    go_wp2_with fail
    go_ret2
    exact ⟨by rw [HR.out]; rfl, HT2.out⟩
  · have HR : Hid (offC v 3 = (-v.ah, v.be)) := offC_3 v
    go_enter Tryd.func26, Tryd.ntmps26
    go_wp2_with fail
    rw [← HE.out]
    have lc0 := lcell (a3)
    have lc1 := lcell (a4)
    refine region_later (W := W0) (by kernel_rfl) (by kernel_rfl) (Below.refl _ _) ?_
    repeat (go_big_quiet_step (fail))
    refine wpQuiet_nil ?_
    intro W2 hW1
    have HL : Hid (Below W0.heap.size W0 W2) := by obtain ⟨x, rfl⟩ := hW1; exact Lib.hid x.below
    clear hW1 lc0 lc1
    have HT2 := Lib.hid (bthen HX.out.1 HL.out HX.out.1.size)
    clear a3 a4
    go_wp2_with fail
    go_ret2
    exact ⟨by rw [HR.out]; rfl, HT2.out⟩
/-- Where the place lies that is an offset away (d = 1: with it, -1: against it). -/
def plK (v : CC) (x y h : Int) : Bool := craftB v && inB x 0 10000 && inB y 0 10000 && inB h 0 3
def plR (d : Int) (v : CC) (x y h : Int) : Int × Int × Bool :=
  if plK v x y h then (x + d * (offC v h.toNat).1, y + d * (offC v h.toNat).2, true) else (0, 0, false)
def PlPost (d : Int) (v : CC) (x y h : Int) (w : World) (e : Ending) (w' : World) : Prop :=
  e = .returned (.tuple #[.int .i64 (plR d v x y h).1, .int .i64 (plR d v x y h).2.1, .bool (plR d v x y h).2.2]) ∧ Below w.heap.size w w'
theorem pl_no {d : Int} {v : CC} {x y h : Int} {w w' : World} (hk : plK v x y h = false) (hb : Below w.heap.size w w') : PlPost d v x y h w (.returned (.tuple #[.int .i64 0, .int .i64 0, .bool false])) w' :=
  ⟨by unfold plR; rw [hk]; rfl, hb⟩
theorem pl_yes {d a b : Int} {v : CC} {x y h : Int} {w w' : World} (hk : plK v x y h = true) (ha : a = x + d * (offC v h.toNat).1) (hb' : b = y + d * (offC v h.toNat).2) (hb : Below w.heap.size w w') : PlPost d v x y h w (.returned (.tuple #[.int .i64 a, .int .i64 b, .bool true])) w' :=
  ⟨by unfold plR; rw [hk, ha, hb']; rfl, hb⟩
set_option maxHeartbeats 1600000 in
theorem sound_impl (v : CC) (x y h : Int) (w : World) (hn : v.nm.size ≤ maxLen) :
    Calls Tryd.prog 7 #[.agg #[.int .i64 v.id, .string v.nm, .int .i64 v.dr, .int .i64 v.ah, .int .i64 v.be, .int .i64 v.sp, .int .i64 v.fu], .int .i64 x, .int .i64 y, .int .i64 h] w (PlPost (1) v x y h w) := by
  have HX := Lib.hid (box1 (cs := #[.int .i64 v.id, .string v.nm, .int .i64 v.dr, .int .i64 v.ah, .int .i64 v.be, .int .i64 v.sp, .int .i64 v.fu]) (T := 25) (Below.refl _ _) (w := w))
  rcases h0 : (craftB v && inB h 0 3) with _ | _
  · have HR : Hid (plK v x y h = false) := by
      unfold Hid plK
      rw [Bool.and_eq_false_iff] at h0
      rcases h0 with h0 | h0 <;> simp [h0]
    have HO : Hid (offR v h = (0, 0, false)) := by unfold Hid offR; rw [h0]; rfl
    clear h0
    go_enter Tryd.func7, Tryd.ntmps7
    go_wp2_with fail
    refine (off_v v h _ _ _ HO.out _ hn).mono ?_
    rintro e w1 ⟨rfl, hb⟩
    have HT := Lib.hid (bthen HX.out.1 hb HX.out.1.size)
    clear hb
    go_wp2_with fail
    go_ret3
    exact pl_no HR.out HT.out
  have h0' := h0
  rw [Bool.and_eq_true] at h0'
  have HV := Lib.hid h0'.1
  have hl := inB_yes h0'.2
  obtain ⟨m, rfl⟩ : ∃ m : Nat, h = m := ⟨h.toNat, by omega⟩
  obtain ⟨⟨b1, b2⟩, ⟨b3, b4⟩⟩ := offC_lim h0'.1 m
  have HE : Hid ((offC v (m : Int).toNat) = offC v m) := by unfold Hid; rw [Int.toNat_natCast]
  have HO : Hid (offR v (m : Int) = ((offC v m).1, (offC v m).2, true)) := by unfold Hid offR; rw [h0, HE.out]; rfl
  obtain ⟨E, hE⟩ : ∃ E, E = (offC v m).1 := ⟨_, rfl⟩
  obtain ⟨N, hN⟩ : ∃ N, N = (offC v m).2 := ⟨_, rfl⟩
  rw [← hE, ← hN] at HO
  rw [← hE] at b1 b2
  rw [← hN] at b3 b4
  have HEN := Lib.hid (And.intro hE hN)
  clear hE hN
  rcases h1 : (inB x 0 10000 && inB y 0 10000) with _ | _
  · have HR : Hid (plK v x y m = false) := by
      unfold Hid plK
      rw [Bool.and_eq_false_iff] at h1
      rcases h1 with h1 | h1 <;> simp [h1]
    have H1 := Lib.hid h1
    clear h0 h0' h1 hl
    go_enter Tryd.func7, Tryd.ntmps7
    go_wp2_with fail
    refine (off_v v m _ _ _ HO.out _ hn).mono ?_
    rintro e w1 ⟨rfl, hb⟩
    have HT := Lib.hid (bthen HX.out.1 hb HX.out.1.size)
    clear hb
    have HW := pair_box (w1 := w1) (x := x) (y := y) (T := 3) rfl
    go_wp2_with fail
    refine (two_within 0 10000 x y _ H1.out _ _ (HW.out.2.at_ 0 _ rfl) (HW.out.2.at_ 1 _ rfl)).mono ?_
    rintro e w' ⟨rfl, rfl⟩
    have HT2 := Lib.hid (bthen HT.out HW.out.1 HT.out.size)
    go_wp2_with fail
    go_ret3
    exact pl_no HR.out HT2.out
  · have HR : Hid (plK v x y m = true) := by
      unfold Hid plK
      rw [Bool.and_eq_true] at h1
      rw [h0'.1, h1.1, h1.2, h0'.2]; rfl
    obtain ⟨x1, x2⟩ := inB_yes (Bool.and_eq_true _ _ ▸ h1).1
    obtain ⟨y1, y2⟩ := inB_yes (Bool.and_eq_true _ _ ▸ h1).2
    have H1 := Lib.hid h1
    clear h0 h0' h1 hl
    go_enter Tryd.func7, Tryd.ntmps7
    go_wp2_with fail
    refine (off_v v m _ _ _ HO.out _ hn).mono ?_
    rintro e w1 ⟨rfl, hb⟩
    have HT := Lib.hid (bthen HX.out.1 hb HX.out.1.size)
    clear hb
    have HW := pair_box (w1 := w1) (x := x) (y := y) (T := 3) rfl
    go_wp2_with fail
    refine (two_within 0 10000 x y _ H1.out _ _ (HW.out.2.at_ 0 _ rfl) (HW.out.2.at_ 1 _ rfl)).mono ?_
    rintro e w' ⟨rfl, rfl⟩
    have HT2 := Lib.hid (bthen HT.out HW.out.1 HT.out.size)
    go_wp2_with fail
    go_ret3
    exact pl_yes HR.out (by rw [HE.out, ← HEN.out.1]; omega) (by rw [HE.out, ← HEN.out.2]; omega) HT2.out
set_option maxHeartbeats 1600000 in
theorem ant_impl (v : CC) (x y h : Int) (w : World) (hn : v.nm.size ≤ maxLen) :
    Calls Tryd.prog 9 #[.agg #[.int .i64 v.id, .string v.nm, .int .i64 v.dr, .int .i64 v.ah, .int .i64 v.be, .int .i64 v.sp, .int .i64 v.fu], .int .i64 x, .int .i64 y, .int .i64 h] w (PlPost (-1) v x y h w) := by
  have HX := Lib.hid (box1 (cs := #[.int .i64 v.id, .string v.nm, .int .i64 v.dr, .int .i64 v.ah, .int .i64 v.be, .int .i64 v.sp, .int .i64 v.fu]) (T := 25) (Below.refl _ _) (w := w))
  rcases h0 : (craftB v && inB h 0 3) with _ | _
  · have HR : Hid (plK v x y h = false) := by
      unfold Hid plK
      rw [Bool.and_eq_false_iff] at h0
      rcases h0 with h0 | h0 <;> simp [h0]
    have HO : Hid (offR v h = (0, 0, false)) := by unfold Hid offR; rw [h0]; rfl
    clear h0
    go_enter Tryd.func9, Tryd.ntmps9
    go_wp2_with fail
    refine (off_v v h _ _ _ HO.out _ hn).mono ?_
    rintro e w1 ⟨rfl, hb⟩
    have HT := Lib.hid (bthen HX.out.1 hb HX.out.1.size)
    clear hb
    go_wp2_with fail
    go_ret3
    exact pl_no HR.out HT.out
  have h0' := h0
  rw [Bool.and_eq_true] at h0'
  have HV := Lib.hid h0'.1
  have hl := inB_yes h0'.2
  obtain ⟨m, rfl⟩ : ∃ m : Nat, h = m := ⟨h.toNat, by omega⟩
  obtain ⟨⟨b1, b2⟩, ⟨b3, b4⟩⟩ := offC_lim h0'.1 m
  have HE : Hid ((offC v (m : Int).toNat) = offC v m) := by unfold Hid; rw [Int.toNat_natCast]
  have HO : Hid (offR v (m : Int) = ((offC v m).1, (offC v m).2, true)) := by unfold Hid offR; rw [h0, HE.out]; rfl
  obtain ⟨E, hE⟩ : ∃ E, E = (offC v m).1 := ⟨_, rfl⟩
  obtain ⟨N, hN⟩ : ∃ N, N = (offC v m).2 := ⟨_, rfl⟩
  rw [← hE, ← hN] at HO
  rw [← hE] at b1 b2
  rw [← hN] at b3 b4
  have HEN := Lib.hid (And.intro hE hN)
  clear hE hN
  rcases h1 : (inB x 0 10000 && inB y 0 10000) with _ | _
  · have HR : Hid (plK v x y m = false) := by
      unfold Hid plK
      rw [Bool.and_eq_false_iff] at h1
      rcases h1 with h1 | h1 <;> simp [h1]
    have H1 := Lib.hid h1
    clear h0 h0' h1 hl
    go_enter Tryd.func9, Tryd.ntmps9
    go_wp2_with fail
    refine (off_v v m _ _ _ HO.out _ hn).mono ?_
    rintro e w1 ⟨rfl, hb⟩
    have HT := Lib.hid (bthen HX.out.1 hb HX.out.1.size)
    clear hb
    have HW := pair_box (w1 := w1) (x := x) (y := y) (T := 3) rfl
    go_wp2_with fail
    refine (two_within 0 10000 x y _ H1.out _ _ (HW.out.2.at_ 0 _ rfl) (HW.out.2.at_ 1 _ rfl)).mono ?_
    rintro e w' ⟨rfl, rfl⟩
    have HT2 := Lib.hid (bthen HT.out HW.out.1 HT.out.size)
    go_wp2_with fail
    go_ret3
    exact pl_no HR.out HT2.out
  · have HR : Hid (plK v x y m = true) := by
      unfold Hid plK
      rw [Bool.and_eq_true] at h1
      rw [h0'.1, h1.1, h1.2, h0'.2]; rfl
    obtain ⟨x1, x2⟩ := inB_yes (Bool.and_eq_true _ _ ▸ h1).1
    obtain ⟨y1, y2⟩ := inB_yes (Bool.and_eq_true _ _ ▸ h1).2
    have H1 := Lib.hid h1
    clear h0 h0' h1 hl
    go_enter Tryd.func9, Tryd.ntmps9
    go_wp2_with fail
    refine (off_v v m _ _ _ HO.out _ hn).mono ?_
    rintro e w1 ⟨rfl, hb⟩
    have HT := Lib.hid (bthen HX.out.1 hb HX.out.1.size)
    clear hb
    have HW := pair_box (w1 := w1) (x := x) (y := y) (T := 3) rfl
    go_wp2_with fail
    refine (two_within 0 10000 x y _ H1.out _ _ (HW.out.2.at_ 0 _ rfl) (HW.out.2.at_ 1 _ rfl)).mono ?_
    rintro e w' ⟨rfl, rfl⟩
    have HT2 := Lib.hid (bthen HT.out HW.out.1 HT.out.size)
    go_wp2_with fail
    go_ret3
    exact pl_yes HR.out (by rw [HE.out, ← HEN.out.1]; omega) (by rw [HE.out, ← HEN.out.2]; omega) HT2.out
theorem plK_parts {v : CC} {x y h : Int} (hk : plK v x y h = true) : craftB v = true ∧ (0 ≤ x ∧ x ≤ 10000) ∧ (0 ≤ y ∧ y ≤ 10000) ∧ (0 ≤ h ∧ h ≤ 3) := by
  unfold plK at hk
  simp only [Bool.and_eq_true] at hk
  exact ⟨hk.1.1.1, inB_yes hk.1.1.2, inB_yes hk.1.2, inB_yes hk.2⟩
set_option maxHeartbeats 1600000 in
theorem place_v (v : CC) (x y h : Int) (b : Bool) (hk : plK v x y h = b) (w : World) (hn : v.nm.size ≤ maxLen) :
    Calls Tryd.prog 25 #[.agg #[.int .i64 v.id, .string v.nm, .int .i64 v.dr, .int .i64 v.ah, .int .i64 v.be, .int .i64 v.sp, .int .i64 v.fu], .int .i64 x, .int .i64 y, .int .i64 h] w fun e w' => e = .returned (.bool b) ∧ Below w.heap.size w w' := by
  have HX := Lib.hid (box1 (cs := #[.int .i64 v.id, .string v.nm, .int .i64 v.dr, .int .i64 v.ah, .int .i64 v.be, .int .i64 v.sp, .int .i64 v.fu]) (T := 25) (Below.refl _ _) (w := w))
  subst hk
  rcases h0 : craftB v with _ | _
  · have HR : Hid (plK v x y h = false) := by unfold Hid plK; simp [h0]
    have H0 := Lib.hid h0
    clear h0
    go_enter Tryd.func25, Tryd.ntmps25
    go_wp2_with fail
    refine (craftOne_v v _ H0.out _ hn).mono ?_
    rintro e w1 ⟨rfl, hb⟩
    have HT := Lib.hid (bthen HX.out.1 hb HX.out.1.size)
    clear hb
    go_wp2_with fail
    go_ret
    exact ⟨ret_bool HR.out.symm, HT.out⟩
  rcases h1 : inB x 0 10000 with _ | _
  · have HR : Hid (plK v x y h = false) := by unfold Hid plK; simp [h0, h1]
    have H0 := Lib.hid h0
    have H1 := Lib.hid h1
    clear h0 h1
    go_enter Tryd.func25, Tryd.ntmps25
    go_wp2_with fail
    refine (craftOne_v v _ H0.out _ hn).mono ?_
    rintro e w1 ⟨rfl, hb⟩
    have HT := Lib.hid (bthen HX.out.1 hb HX.out.1.size)
    clear hb
    go_wp2_with fail
    refine (l1In_v _ _ _ _ H1.out _).mono ?_
    rintro e w' ⟨rfl, rfl⟩
    go_wp2_with fail
    go_ret
    exact ⟨ret_bool HR.out.symm, HT.out⟩
  rcases h2 : inB y 0 10000 with _ | _
  · have HR : Hid (plK v x y h = false) := by unfold Hid plK; simp [h0, h1, h2]
    have H0 := Lib.hid h0
    have H1 := Lib.hid h1
    have H2 := Lib.hid h2
    clear h0 h1 h2
    go_enter Tryd.func25, Tryd.ntmps25
    go_wp2_with fail
    refine (craftOne_v v _ H0.out _ hn).mono ?_
    rintro e w1 ⟨rfl, hb⟩
    have HT := Lib.hid (bthen HX.out.1 hb HX.out.1.size)
    clear hb
    go_wp2_with fail
    refine (l1In_v _ _ _ _ H1.out _).mono ?_
    rintro e w' ⟨rfl, rfl⟩
    go_wp2_with fail
    refine (l1In_v _ _ _ _ H2.out _).mono ?_
    rintro e w' ⟨rfl, rfl⟩
    go_wp2_with fail
    go_ret
    exact ⟨ret_bool HR.out.symm, HT.out⟩
  rcases h3 : inB h 0 3 with _ | _
  · have HR : Hid (plK v x y h = false) := by unfold Hid plK; simp [h0, h1, h2, h3]
    have H0 := Lib.hid h0
    have H1 := Lib.hid h1
    have H2 := Lib.hid h2
    have H3 := Lib.hid h3
    clear h0 h1 h2 h3
    go_enter Tryd.func25, Tryd.ntmps25
    go_wp2_with fail
    refine (craftOne_v v _ H0.out _ hn).mono ?_
    rintro e w1 ⟨rfl, hb⟩
    have HT := Lib.hid (bthen HX.out.1 hb HX.out.1.size)
    clear hb
    go_wp2_with fail
    refine (l1In_v _ _ _ _ H1.out _).mono ?_
    rintro e w' ⟨rfl, rfl⟩
    go_wp2_with fail
    refine (l1In_v _ _ _ _ H2.out _).mono ?_
    rintro e w' ⟨rfl, rfl⟩
    go_wp2_with fail
    refine (l1In_v _ _ _ _ H3.out _).mono ?_
    rintro e w' ⟨rfl, rfl⟩
    go_wp2_with fail
    go_ret
    exact ⟨ret_bool HR.out.symm, HT.out⟩
  · have HR : Hid (plK v x y h = true) := by unfold Hid plK; simp [h0, h1, h2, h3]
    have H0 := Lib.hid h0
    have H1 := Lib.hid h1
    have H2 := Lib.hid h2
    have H3 := Lib.hid h3
    clear h0 h1 h2 h3
    go_enter Tryd.func25, Tryd.ntmps25
    go_wp2_with fail
    refine (craftOne_v v _ H0.out _ hn).mono ?_
    rintro e w1 ⟨rfl, hb⟩
    have HT := Lib.hid (bthen HX.out.1 hb HX.out.1.size)
    clear hb
    go_wp2_with fail
    refine (l1In_v _ _ _ _ H1.out _).mono ?_
    rintro e w' ⟨rfl, rfl⟩
    go_wp2_with fail
    refine (l1In_v _ _ _ _ H2.out _).mono ?_
    rintro e w' ⟨rfl, rfl⟩
    go_wp2_with fail
    refine (l1In_v _ _ _ _ H3.out _).mono ?_
    rintro e w' ⟨rfl, rfl⟩
    go_wp2_with fail
    go_ret
    exact ⟨ret_bool HR.out.symm, HT.out⟩
set_option maxHeartbeats 1600000 in
theorem sound_spec (v : CC) (x y h : Int) (w : World) (hn : v.nm.size ≤ maxLen) :
    Calls Tryd.prog 8 #[.agg #[.int .i64 v.id, .string v.nm, .int .i64 v.dr, .int .i64 v.ah, .int .i64 v.be, .int .i64 v.sp, .int .i64 v.fu], .int .i64 x, .int .i64 y, .int .i64 h] w (PlPost (1) v x y h w) := by
  have HX := Lib.hid (box1 (cs := #[.int .i64 v.id, .string v.nm, .int .i64 v.dr, .int .i64 v.ah, .int .i64 v.be, .int .i64 v.sp, .int .i64 v.fu]) (T := 25) (Below.refl _ _) (w := w))
  rcases h0 : plK v x y h with _ | _
  · have HR := Lib.hid h0
    clear h0
    go_enter Tryd.func8, Tryd.ntmps8
    go_wp2_with fail
    refine (place_v v x y h _ HR.out _ hn).mono ?_
    rintro e w1 ⟨rfl, hb⟩
    have HT := Lib.hid (bthen HX.out.1 hb HX.out.1.size)
    clear hb
    go_wp2_with fail
    go_ret3
    exact pl_no HR.out HT.out
  obtain ⟨hv, ⟨x1, x2⟩, ⟨y1, y2⟩, hl⟩ := plK_parts h0
  obtain ⟨m, rfl⟩ : ∃ m : Nat, h = m := ⟨h.toNat, by omega⟩
  obtain ⟨⟨b1, b2⟩, ⟨b3, b4⟩⟩ := offC_lim hv m
  have HE : Hid ((offC v (m : Int).toNat) = offC v m) := by unfold Hid; rw [Int.toNat_natCast]
  have HV := Lib.hid hv
  have HM : Hid (m ≤ 3) := Lib.hid (by omega)
  obtain ⟨P, hP⟩ : ∃ P, P = offC v m := ⟨_, rfl⟩
  rw [← hP] at b1 b2 b3 b4
  have HP := Lib.hid hP
  have HR := Lib.hid h0
  clear h0 hP hv hl
  go_enter Tryd.func8, Tryd.ntmps8
  go_wp2_with fail
  refine (place_v v x y m _ HR.out _ hn).mono ?_
  rintro e w1 ⟨rfl, hb⟩
  have HT := Lib.hid (bthen HX.out.1 hb HX.out.1.size)
  have HW := HX.out.2.next hb
  have a0 := HW.at_ 0 _ rfl
  have a1 := HW.at_ 1 _ rfl
  have a2 := HW.at_ 2 _ rfl
  have a3 := HW.at_ 3 _ rfl
  have a4 := HW.at_ 4 _ rfl
  have a5 := HW.at_ 5 _ rfl
  have a6 := HW.at_ 6 _ rfl
  clear hb HW
  go_wp2_with fail
  refine (turned_any v m _ HV.out HM.out).mono ?_
  rw [← HP.out]
  rintro e w2 ⟨rfl, hb⟩
  have HT2 := Lib.hid (bthen HT.out hb HT.out.size)
  clear hb a0 a1 a2 a3 a4 a5 a6
  go_wp2_with fail
  go_ret3
  exact pl_yes HR.out (by rw [HE.out, ← HP.out]; omega) (by rw [HE.out, ← HP.out]; omega) HT2.out
set_option maxHeartbeats 1600000 in
theorem ant_spec (v : CC) (x y h : Int) (w : World) (hn : v.nm.size ≤ maxLen) :
    Calls Tryd.prog 10 #[.agg #[.int .i64 v.id, .string v.nm, .int .i64 v.dr, .int .i64 v.ah, .int .i64 v.be, .int .i64 v.sp, .int .i64 v.fu], .int .i64 x, .int .i64 y, .int .i64 h] w (PlPost (-1) v x y h w) := by
  have HX := Lib.hid (box1 (cs := #[.int .i64 v.id, .string v.nm, .int .i64 v.dr, .int .i64 v.ah, .int .i64 v.be, .int .i64 v.sp, .int .i64 v.fu]) (T := 25) (Below.refl _ _) (w := w))
  rcases h0 : plK v x y h with _ | _
  · have HR := Lib.hid h0
    clear h0
    go_enter Tryd.func10, Tryd.ntmps10
    go_wp2_with fail
    refine (place_v v x y h _ HR.out _ hn).mono ?_
    rintro e w1 ⟨rfl, hb⟩
    have HT := Lib.hid (bthen HX.out.1 hb HX.out.1.size)
    clear hb
    go_wp2_with fail
    go_ret3
    exact pl_no HR.out HT.out
  obtain ⟨hv, ⟨x1, x2⟩, ⟨y1, y2⟩, hl⟩ := plK_parts h0
  obtain ⟨m, rfl⟩ : ∃ m : Nat, h = m := ⟨h.toNat, by omega⟩
  obtain ⟨⟨b1, b2⟩, ⟨b3, b4⟩⟩ := offC_lim hv m
  have HE : Hid ((offC v (m : Int).toNat) = offC v m) := by unfold Hid; rw [Int.toNat_natCast]
  have HV := Lib.hid hv
  have HM : Hid (m ≤ 3) := Lib.hid (by omega)
  obtain ⟨P, hP⟩ : ∃ P, P = offC v m := ⟨_, rfl⟩
  rw [← hP] at b1 b2 b3 b4
  have HP := Lib.hid hP
  have HR := Lib.hid h0
  clear h0 hP hv hl
  go_enter Tryd.func10, Tryd.ntmps10
  go_wp2_with fail
  refine (place_v v x y m _ HR.out _ hn).mono ?_
  rintro e w1 ⟨rfl, hb⟩
  have HT := Lib.hid (bthen HX.out.1 hb HX.out.1.size)
  have HW := HX.out.2.next hb
  have a0 := HW.at_ 0 _ rfl
  have a1 := HW.at_ 1 _ rfl
  have a2 := HW.at_ 2 _ rfl
  have a3 := HW.at_ 3 _ rfl
  have a4 := HW.at_ 4 _ rfl
  have a5 := HW.at_ 5 _ rfl
  have a6 := HW.at_ 6 _ rfl
  clear hb HW
  go_wp2_with fail
  refine (turned_any v m _ HV.out HM.out).mono ?_
  rw [← HP.out]
  rintro e w2 ⟨rfl, hb⟩
  have HT2 := Lib.hid (bthen HT.out hb HT.out.size)
  clear hb a0 a1 a2 a3 a4 a5 a6
  go_wp2_with fail
  go_ret3
  exact pl_yes HR.out (by rw [HE.out, ← HP.out]; omega) (by rw [HE.out, ← HP.out]; omega) HT2.out
end Go.Proofs.YtfffahkommbheaaDoor
