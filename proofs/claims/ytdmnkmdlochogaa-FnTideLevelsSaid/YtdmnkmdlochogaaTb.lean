/-
  A level between two gauges: contracts of impl.LevelBetween, spec.LevelBetween over this translation. Conditions: stated at each theorem.
-/
import Derived.Test.YtdmnkmdlochogaaTq
import Derived.Test.YtdmnkmdlochogaaTw
namespace Go.Proofs.Ytdmnkmdlochogaa
open Go.RowKit

def bwK (a b : List (Int × Int)) (x y t : Int) : Bool := loK a t && loK b t && (inB x 1 10000 && inB y 1 10000)
def bwM (a b : List (Int × Int)) (x y t : Int) : Int := y * lvN a t * lvD b t + x * lvN b t * lvD a t
def bwE (a b : List (Int × Int)) (x y t : Int) : Nat := (x + y).toNat * lvD a t * lvD b t
def bwN (a b : List (Int × Int)) (x y t : Int) : Int := if bwK a b x y t then rdN (bwM a b x y t) (bwE a b x y t) else 0
def bwD (a b : List (Int × Int)) (x y t : Int) : Int := if bwK a b x y t then (rdD (bwM a b x y t) (bwE a b x y t) : Int) else 0
def BwPost (a b : List (Int × Int)) (x y t : Int) (w : World) (e : Ending) (w' : World) : Prop :=
  e = .returned (.tuple #[.int .i64 (bwN a b x y t), .int .i64 (bwD a b x y t), .bool (bwK a b x y t)]) ∧ Below w.heap.size w w'
theorem bw_no {a b : List (Int × Int)} {x y t : Int} {w w' : World} (h : bwK a b x y t = false) (hb : Below w.heap.size w w') : BwPost a b x y t w (.returned (.tuple #[.int .i64 0, .int .i64 0, .bool false])) w' :=
  ⟨by unfold bwN bwD; rw [h]; rfl, hb⟩
theorem bw_yes {a b : List (Int × Int)} {x y t : Int} {M : Int} {E : Nat} {w w' : World} (h : bwK a b x y t = true) (hM : rdN (bwM a b x y t) (bwE a b x y t) = rdN M E ∧ rdD (bwM a b x y t) (bwE a b x y t) = rdD M E) (hb : Below w.heap.size w w') :
    BwPost a b x y t w (.returned (.tuple #[.int .i64 (M.tdiv (gd M E : Nat)), .int .i64 ((E : Int) / (gd M E : Nat)), .bool true])) w' :=
  ⟨by unfold bwN bwD; rw [h, if_pos rfl, if_pos rfl, hM.1, hM.2, rdD_cast]; rfl, hb⟩
theorem bw_red {a b : List (Int × Int)} {x y t : Int} (hx : 1 ≤ x) (hy : 1 ≤ y) (ha : 0 < lvD a t) (hb : 0 < lvD b t) {E : Nat} (hE : (x + y) * (rlD a t : Int) * (rlD b t : Int) = E) :
    rdN (bwM a b x y t) (bwE a b x y t) = rdN (y * rlN a t * rlD b t + x * rlN b t * rlD a t) E ∧ rdD (bwM a b x y t) (bwE a b x y t) = rdD (y * rlN a t * rlD b t + x * rlN b t * rlD a t) E := by
  obtain ⟨g, hg, _, hn, hd⟩ := rl_mul ha
  obtain ⟨k, hk, _, hm, he⟩ := rl_mul hb
  have hp : 0 < g * k := Nat.mul_pos hg hk
  have e1 : bwM a b x y t = ((g * k : Nat) : Int) * (y * rlN a t * rlD b t + x * rlN b t * rlD a t) := by
    unfold bwM
    rw [hn, hd, hm, he, Int.natCast_mul, Int.natCast_mul, Int.natCast_mul, Int.mul_add]
    congr 1 <;> simp only [Int.mul_assoc, Int.mul_left_comm]
  have e2 : bwE a b x y t = g * k * E := by
    have hxy : (((x + y).toNat : Nat) : Int) = x + y := by omega
    have : ((bwE a b x y t : Nat) : Int) = ((g * k * E : Nat) : Int) := by
      unfold bwE
      rw [Int.natCast_mul, Int.natCast_mul, Int.natCast_mul, Int.natCast_mul, hxy, ← hE, hd, he, Int.natCast_mul, Int.natCast_mul]
      simp only [Int.mul_assoc, Int.mul_left_comm]
    exact Int.ofNat_inj.1 this
  rw [e1, e2]
  exact ⟨rdN_mul hp _ _, rdD_mul hp _ _⟩
theorem mul_sym {a b B C : Int} (hB : 0 ≤ B) (h1 : -B ≤ a ∧ a ≤ B) (h2 : 0 ≤ b ∧ b ≤ C) : -(B * C) ≤ a * b ∧ a * b ≤ B * C := by
  have h3 : a.natAbs ≤ B.toNat := by omega
  have h4 : b.natAbs ≤ C.toNat := by omega
  have h5 := Nat.mul_le_mul h3 h4
  rw [← Int.natAbs_mul] at h5
  have h6 : ((B.toNat * C.toNat : Nat) : Int) = B * C := by rw [Int.natCast_mul]; congr 1 <;> omega
  omega
theorem bw_bds {x y n1 n2 : Int} {d1 d2 : Nat} (hx : 1 ≤ x ∧ x ≤ 10000) (hy : 1 ≤ y ∧ y ≤ 10000) (h1 : (1 ≤ d1 ∧ d1 ≤ 60) ∧ -120000 ≤ n1 ∧ n1 ≤ 120000) (h2 : (1 ≤ d2 ∧ d2 ≤ 60) ∧ -120000 ≤ n2 ∧ n2 ≤ 120000) :
    (-1200000000 ≤ y * n1 ∧ y * n1 ≤ 1200000000) ∧ (-72000000000 ≤ y * n1 * d2 ∧ y * n1 * d2 ≤ 72000000000) ∧ (-1200000000 ≤ x * n2 ∧ x * n2 ≤ 1200000000) ∧ (-72000000000 ≤ x * n2 * d1 ∧ x * n2 * d1 ≤ 72000000000) ∧
    (0 < (x + y) * d1 ∧ (x + y) * d1 ≤ 1200000) ∧ (0 < (x + y) * d1 * d2 ∧ (x + y) * d1 * d2 ≤ 72000000) := by
  have a1 := mul_sym (a := n1) (b := y) (B := 120000) (C := 10000) (by omega) h1.2 (by omega)
  rw [Int.mul_comm n1 y] at a1
  have a2 := mul_sym (a := y * n1) (b := (d2 : Int)) (B := 1200000000) (C := 60) (by omega) (by omega) (by omega)
  have a3 := mul_sym (a := n2) (b := x) (B := 120000) (C := 10000) (by omega) h2.2 (by omega)
  rw [Int.mul_comm n2 x] at a3
  have a4 := mul_sym (a := x * n2) (b := (d1 : Int)) (B := 1200000000) (C := 60) (by omega) (by omega) (by omega)
  have a5 := mul_sym (a := x + y) (b := (d1 : Int)) (B := 20000) (C := 60) (by omega) (by omega) (by omega)
  have p1 : (0 : Int) < (x + y) * d1 := Int.mul_pos (by omega) (by omega)
  have a6 := mul_sym (a := (x + y) * d1) (b := (d2 : Int)) (B := 1200000) (C := 60) (by omega) (by omega) (by omega)
  have p2 : (0 : Int) < (x + y) * d1 * d2 := Int.mul_pos p1 (by omega)
  omega
set_option maxRecDepth 20000 in
set_option maxHeartbeats 1600000 in
theorem between_impl (A : Option Addr) (n c : Nat) (a : List (Int × Int)) (A' : Option Addr) (n' c' : Nat) (b : List (Int × Int)) (x y t : Int) (w : World) (hs : Spots w w.heap.size A n a) (hm : n ≤ maxLen) (hs' : Spots w w.heap.size A' n' b) (hm' : n' ≤ maxLen) :
    Calls Try.prog 45 #[.slice A n c, .slice A' n' c', .int .i64 x, .int .i64 y, .int .i64 t] w (BwPost a b x y t w) := by
  have HS := Lib.hid (And.intro hs hs')
  clear hs hs'
  obtain ⟨N1, hN1⟩ : ∃ N, N = loN a t := ⟨_, rfl⟩
  obtain ⟨D1, hD1⟩ : ∃ D, D = loD a t := ⟨_, rfl⟩
  obtain ⟨K1, hK1⟩ : ∃ K, K = loK a t := ⟨_, rfl⟩
  obtain ⟨N2, hN2⟩ : ∃ N, N = loN b t := ⟨_, rfl⟩
  obtain ⟨D2, hD2⟩ : ∃ D, D = loD b t := ⟨_, rfl⟩
  obtain ⟨K2, hK2⟩ : ∃ K, K = loK b t := ⟨_, rfl⟩
  have HQ := Lib.hid (And.intro (And.intro hN1 (And.intro hD1 hK1)) (And.intro hN2 (And.intro hD2 hK2)))
  clear hN1 hD1 hK1 hN2 hD2 hK2
  go_enter Try.func45, Try.ntmps45
  go_wp2_with fail
  refine (levelOf_v _ _ _ a t _ _ _ HQ.out.1.1.symm HQ.out.1.2.1.symm HQ.out.1.2.2.symm _ HS.out.1 hm).mono ?_
  rintro e w1 ⟨rfl, hb⟩
  obtain ⟨W1, hW1⟩ : ∃ W0, W0 = w1.alloc (.cells #[.int .i64 N1, .int .i64 D1] 124) := ⟨_, rfl⟩
  have HW := frac_box hb hW1
  have HS2 := Lib.hid (spots_at HS.out.2 HW.out.1)
  have HE := Lib.hid hW1
  clear hb hW1
  go_wp2_with fail
  rw [← HE.out]
  refine (levelOf_v _ _ _ b t _ _ _ HQ.out.2.1.symm HQ.out.2.2.1.symm HQ.out.2.2.2.symm _ HS2.out hm').mono ?_
  rintro e w2 ⟨rfl, hb⟩
  obtain ⟨W2, hW2⟩ : ∃ W0, W0 = w2.alloc (.cells #[.int .i64 N2, .int .i64 D2] 124) := ⟨_, rfl⟩
  have HV := frac_box (bthen HW.out.1 hb HW.out.1.size) hW2
  have HX := Lib.hid (And.intro ((HW.out.2.1.next hb).next HV.out.2.2) HV.out.2.1)
  have HE2 := Lib.hid hW2
  clear hb hW2
  rcases K1 with _ | _
  · have HR : Hid (bwK a b x y t = false) := by unfold Hid bwK; rw [← HQ.out.1.2.2]; rfl
    go_wp2_with fail
    try rw [← HE2.out]
    go_ret3
    exact bw_no HR.out HV.out.1
  rcases K2 with _ | _
  · have HR : Hid (bwK a b x y t = false) := by unfold Hid bwK; rw [← HQ.out.1.2.2, ← HQ.out.2.2.2]; rfl
    go_wp2_with fail
    try rw [← HE2.out]
    go_ret3
    exact bw_no HR.out HV.out.1
  rcases h2 : (inB x 1 10000 && inB y 1 10000) with _ | _
  · have HR : Hid (bwK a b x y t = false) := by unfold Hid bwK; rw [h2, Bool.and_false]
    have H2 := Lib.hid h2
    clear h2
    go_wp2_with fail
    rw [← HE2.out]
    obtain ⟨W3, hW3⟩ : ∃ W, W = W2.alloc (.cells #[.int .i64 x, .int .i64 y] 3) := ⟨_, rfl⟩
    have HP0 := pair_box hW3
    have hz : W2.heap.size = w2.heap.size + 1 := by rw [HE2.out]; exact World.size_alloc _ _
    have HP : Hid (Below W2.heap.size W2 W3 ∧ Has W3 (w2.heap.size + 1) [.int .i64 x, .int .i64 y]) := Lib.hid ⟨HP0.out.1, hz ▸ HP0.out.2⟩
    clear hz HP0
    have HB3 := Lib.hid (bthen HV.out.1 HP.out.1 HV.out.1.size)
    have HE3 := Lib.hid hW3
    clear hW3
    rw [← HE3.out]
    refine (two_within _ _ x y _ H2.out _ _ (HP.out.2.at_ 0 _ rfl) (HP.out.2.at_ 1 _ rfl)).mono ?_
    rintro e w' ⟨rfl, rfl⟩
    go_wp2_with fail
    go_ret3
    exact bw_no HR.out HB3.out
  have HR : Hid (bwK a b x y t = true) := by unfold Hid bwK; rw [← HQ.out.1.2.2, ← HQ.out.2.2.2, h2]; rfl
  have H2 := Lib.hid h2
  rw [Bool.and_eq_true] at h2
  have hx := inB_yes h2.1
  have hy := inB_yes h2.2
  have q1 := lo_parts HQ.out.1.2.2.symm
  have q2 := lo_parts HQ.out.2.2.2.symm
  have r1 := rl_bd q1.1 q1.2.1
  have r2 := rl_bd q2.1 q2.2.1
  have HQ2 : Hid (0 < lvD a t ∧ 0 < lvD b t) := Lib.hid ⟨by have := lv_bd q1.1 q1.2.1; omega, by have := lv_bd q2.1 q2.2.1; omega⟩
  have p1 := HQ.out.1.1.trans q1.2.2.1
  have p2 := HQ.out.1.2.1.trans q1.2.2.2
  have p3 := HQ.out.2.1.trans q2.2.2.1
  have p4 := HQ.out.2.2.1.trans q2.2.2.2
  clear q1 q2 h2 HQ
  obtain ⟨d1, e1⟩ : ∃ d, d = rlD a t := ⟨_, rfl⟩
  obtain ⟨d2, e2⟩ : ∃ d, d = rlD b t := ⟨_, rfl⟩
  rw [← e1] at p2 r1
  rw [← e2] at p4 r2
  rw [← p1] at r1
  rw [← p3] at r2
  subst p2 p4
  have HF := Lib.hid (And.intro (And.intro p1 e1) (And.intro p3 e2))
  have bd := bw_bds hx hy r1 r2
  clear p1 p3 e1 e2 r1 r2
  obtain ⟨⟨b1, b2⟩, ⟨b3, b4⟩, ⟨b5, b6⟩, ⟨b7, b8⟩, ⟨b9, b10⟩, b11, b12⟩ := bd
  obtain ⟨hx1, hx2⟩ := hx
  obtain ⟨hy1, hy2⟩ := hy
  obtain ⟨E, hE⟩ : ∃ E : Nat, (x + y) * (d1 : Int) * (d2 : Int) = E := ⟨((x + y) * (d1 : Int) * (d2 : Int)).toNat, by omega⟩
  have HRED : Hid (rdN (bwM a b x y t) (bwE a b x y t) = rdN (y * N1 * d2 + x * N2 * d1) E ∧ rdD (bwM a b x y t) (bwE a b x y t) = rdD (y * N1 * d2 + x * N2 * d1) E) := by
    have := bw_red (a := a) (b := b) (x := x) (y := y) (t := t) hx1 hy1 HQ2.out.1 HQ2.out.2 (E := E) (by rw [← HF.out.1.2, ← HF.out.2.2]; exact hE)
    rw [← HF.out.1.1, ← HF.out.1.2, ← HF.out.2.1, ← HF.out.2.2] at this
    exact this
  have hE1 : 0 < E ∧ E ≤ 72000000 := by omega
  go_wp2_with fail
  rw [← HE2.out]
  obtain ⟨W3, hW3⟩ : ∃ W, W = W2.alloc (.cells #[.int .i64 x, .int .i64 y] 3) := ⟨_, rfl⟩
  have HP0 := pair_box hW3
  have hz : W2.heap.size = w2.heap.size + 1 := by rw [HE2.out]; exact World.size_alloc _ _
  have HP : Hid (Below W2.heap.size W2 W3 ∧ Has W3 (w2.heap.size + 1) [.int .i64 x, .int .i64 y]) := Lib.hid ⟨HP0.out.1, hz ▸ HP0.out.2⟩
  clear hz HP0
  have HB3 := Lib.hid (bthen HV.out.1 HP.out.1 HV.out.1.size)
  have HX3 := Lib.hid (And.intro (HX.out.1.next HP.out.1) (HX.out.2.next HP.out.1))
  have HE3 := Lib.hid hW3
  clear hW3
  rw [← HE3.out]
  refine (two_within _ _ x y _ H2.out _ _ (HP.out.2.at_ 0 _ rfl) (HP.out.2.at_ 1 _ rfl)).mono ?_
  rintro e w' ⟨rfl, rfl⟩
  have a0 := HX3.out.1.at_ 0 _ rfl
  have a1 := HX3.out.1.at_ 1 _ rfl
  have c0 := HX3.out.2.at_ 0 _ rfl
  have c1 := HX3.out.2.at_ 1 _ rfl
  go_wp2_with fail
  refine (lowest_impl (y * N1 * d2 + x * N2 * d1) E _ (by omega) (by omega) hE1.1 (by omega)).mono ?_
  rintro e w4 ⟨rfl, hb⟩
  have HB4 := Lib.hid (bthen HB3.out hb HB3.out.size)
  clear hb
  go_wp2_with fail
  go_ret3
  exact bw_yes HR.out HRED.out HB4.out
set_option maxRecDepth 20000 in
set_option maxHeartbeats 1600000 in
theorem between_spec (A : Option Addr) (n c : Nat) (a : List (Int × Int)) (A' : Option Addr) (n' c' : Nat) (b : List (Int × Int)) (x y t : Int) (w : World) (hs : Spots w w.heap.size A n a) (hm : n ≤ maxLen) (hs' : Spots w w.heap.size A' n' b) (hm' : n' ≤ maxLen) :
    Calls Try.prog 46 #[.slice A n c, .slice A' n' c', .int .i64 x, .int .i64 y, .int .i64 t] w (BwPost a b x y t w) := by
  have HS := Lib.hid (And.intro hs hs')
  clear hs hs'
  rcases ha : askK a t with _ | _
  · have HR : Hid (bwK a b x y t = false) := by unfold Hid bwK loK; rw [ha]; rfl
    have HA := Lib.hid ha
    clear ha
    go_enter Try.func46, Try.ntmps46
    go_wp2_with fail
    refine (asked_spec _ _ _ a t _ HA.out _ HS.out.1 hm).mono ?_
    rintro e w1 ⟨rfl, hb⟩
    have HB1 := Lib.hid hb
    clear hb
    go_wp2_with fail
    go_ret3
    exact bw_no HR.out HB1.out
  have HA := Lib.hid ha
  rcases hb' : askK b t with _ | _
  · have HR : Hid (bwK a b x y t = false) := by unfold Hid bwK loK; rw [hb', Bool.false_and, Bool.and_false]; rfl
    have HA' := Lib.hid hb'
    clear ha hb'
    go_enter Try.func46, Try.ntmps46
    go_wp2_with fail
    refine (asked_spec _ _ _ a t _ HA.out _ HS.out.1 hm).mono ?_
    rintro e w1 ⟨rfl, hb⟩
    have HB1 := Lib.hid hb
    have HS1 := Lib.hid (spots_at HS.out.2 hb)
    clear hb
    go_wp2_with fail
    refine (asked_spec _ _ _ b t _ HA'.out _ HS1.out hm').mono ?_
    rintro e w2 ⟨rfl, hb⟩
    have HB2 := Lib.hid (bthen HB1.out hb HB1.out.size)
    clear hb
    go_wp2_with fail
    go_ret3
    exact bw_no HR.out HB2.out
  have HA' := Lib.hid hb'
  have HKL : Hid (loK a t = lvK a t ∧ loK b t = lvK b t) := by unfold Hid loK; rw [ha, hb']; exact ⟨rfl, rfl⟩
  rcases hix : inB x 1 10000 with _ | _
  · have HR : Hid (bwK a b x y t = false) := by unfold Hid bwK; rw [hix, Bool.false_and, Bool.and_false]
    have HI := Lib.hid hix
    clear ha hb' hix
    go_enter Try.func46, Try.ntmps46
    go_wp2_with fail
    refine (asked_spec _ _ _ a t _ HA.out _ HS.out.1 hm).mono ?_
    rintro e w1 ⟨rfl, hb⟩
    have HB1 := Lib.hid hb
    have HS1 := Lib.hid (spots_at HS.out.2 hb)
    clear hb
    go_wp2_with fail
    refine (asked_spec _ _ _ b t _ HA'.out _ HS1.out hm').mono ?_
    rintro e w2 ⟨rfl, hb⟩
    have HB2 := Lib.hid (bthen HB1.out hb HB1.out.size)
    clear hb
    go_wp2_with fail
    refine (l1In_v _ _ _ _ HI.out _).mono ?_
    rintro e w' ⟨rfl, rfl⟩
    go_wp2_with fail
    go_ret3
    exact bw_no HR.out HB2.out
  have HI := Lib.hid hix
  rcases hiy : inB y 1 10000 with _ | _
  · have HR : Hid (bwK a b x y t = false) := by unfold Hid bwK; rw [hiy, Bool.and_false, Bool.and_false]
    have HJ := Lib.hid hiy
    clear ha hb' hix hiy
    go_enter Try.func46, Try.ntmps46
    go_wp2_with fail
    refine (asked_spec _ _ _ a t _ HA.out _ HS.out.1 hm).mono ?_
    rintro e w1 ⟨rfl, hb⟩
    have HB1 := Lib.hid hb
    have HS1 := Lib.hid (spots_at HS.out.2 hb)
    clear hb
    go_wp2_with fail
    refine (asked_spec _ _ _ b t _ HA'.out _ HS1.out hm').mono ?_
    rintro e w2 ⟨rfl, hb⟩
    have HB2 := Lib.hid (bthen HB1.out hb HB1.out.size)
    clear hb
    go_wp2_with fail
    refine (l1In_v _ _ _ _ HI.out _).mono ?_
    rintro e w' ⟨rfl, rfl⟩
    go_wp2_with fail
    refine (l1In_v _ _ _ _ HJ.out _).mono ?_
    rintro e w' ⟨rfl, rfl⟩
    go_wp2_with fail
    go_ret3
    exact bw_no HR.out HB2.out
  have HJ := Lib.hid hiy
  have hx := inB_yes hix
  have hy := inB_yes hiy
  obtain ⟨N1, hN1⟩ : ∃ N, N = l4N a t := ⟨_, rfl⟩
  obtain ⟨D1, hD1⟩ : ∃ D, D = l4D a t := ⟨_, rfl⟩
  obtain ⟨K1, hK1⟩ : ∃ K, K = lvK a t := ⟨_, rfl⟩
  obtain ⟨N2, hN2⟩ : ∃ N, N = l4N b t := ⟨_, rfl⟩
  obtain ⟨D2, hD2⟩ : ∃ D, D = l4D b t := ⟨_, rfl⟩
  obtain ⟨K2, hK2⟩ : ∃ K, K = lvK b t := ⟨_, rfl⟩
  have HQ := Lib.hid (And.intro (And.intro hN1 (And.intro hD1 hK1)) (And.intro hN2 (And.intro hD2 hK2)))
  have HXY : Hid ((inB x 1 10000 && inB y 1 10000) = true) := by unfold Hid; rw [hix, hiy]; rfl
  clear hN1 hD1 hK1 hN2 hD2 hK2 ha hb' hix hiy
  go_enter Try.func46, Try.ntmps46
  go_wp2_with fail
  refine (asked_spec _ _ _ a t _ HA.out _ HS.out.1 hm).mono ?_
  rintro e w1 ⟨rfl, hb⟩
  have HB1 := Lib.hid hb
  have HS1 := Lib.hid (And.intro (spots_at HS.out.1 hb) (spots_at HS.out.2 hb))
  clear hb
  go_wp2_with fail
  refine (asked_spec _ _ _ b t _ HA'.out _ HS1.out.2 hm').mono ?_
  rintro e w2 ⟨rfl, hb⟩
  have HB2 := Lib.hid (bthen HB1.out hb HB1.out.size)
  have HS2 := Lib.hid (And.intro (spots_at HS1.out.1 hb) (spots_at HS1.out.2 hb))
  clear hb
  go_wp2_with fail
  refine (l1In_v _ _ _ _ HI.out _).mono ?_
  rintro e w' ⟨rfl, rfl⟩
  go_wp2_with fail
  refine (l1In_v _ _ _ _ HJ.out _).mono ?_
  rintro e w' ⟨rfl, rfl⟩
  go_wp2_with fail
  refine (asked_at _ _ _ a t _ _ _ HQ.out.1.1.symm HQ.out.1.2.1.symm HQ.out.1.2.2.symm _ HS2.out.1 HA.out).mono ?_
  rintro e w3 ⟨rfl, hb⟩
  have HB3 := Lib.hid (bthen HB2.out hb HB2.out.size)
  have HS3 := Lib.hid (spots_at HS2.out.2 hb)
  clear hb
  go_wp2_with fail
  refine (asked_at _ _ _ b t _ _ _ HQ.out.2.1.symm HQ.out.2.2.1.symm HQ.out.2.2.2.symm _ HS3.out HA'.out).mono ?_
  rintro e w4 ⟨rfl, hb⟩
  have HB4 := Lib.hid (bthen HB3.out hb HB3.out.size)
  clear hb
  rcases K1 with _ | _
  · have HR : Hid (bwK a b x y t = false) := by unfold Hid bwK; rw [HKL.out.1, ← HQ.out.1.2.2]; rfl
    go_wp2_with fail
    go_ret3
    exact bw_no HR.out HB4.out
  rcases K2 with _ | _
  · have HR : Hid (bwK a b x y t = false) := by unfold Hid bwK; rw [HKL.out.2, ← HQ.out.2.2.2, Bool.and_false]; rfl
    go_wp2_with fail
    go_ret3
    exact bw_no HR.out HB4.out
  have HR : Hid (bwK a b x y t = true) := by unfold Hid bwK; rw [HKL.out.1, HKL.out.2, ← HQ.out.1.2.2, ← HQ.out.2.2.2, HXY.out]; rfl
  have k1 := HQ.out.1.2.2.symm
  have k2 := HQ.out.2.2.2.symm
  have r1 := lv_bd (ask_yes HA.out).1 k1
  have r2 := lv_bd (ask_yes HA'.out).1 k2
  have p1 : N1 = lvN a t := HQ.out.1.1.trans (by unfold l4N; rw [k1]; rfl)
  have p2 : D1 = (lvD a t : Nat) := HQ.out.1.2.1.trans (by unfold l4D; rw [k1]; rfl)
  have p3 : N2 = lvN b t := HQ.out.2.1.trans (by unfold l4N; rw [k2]; rfl)
  have p4 : D2 = (lvD b t : Nat) := HQ.out.2.2.1.trans (by unfold l4D; rw [k2]; rfl)
  clear HQ k1 k2
  obtain ⟨d1, e1⟩ : ∃ d, d = lvD a t := ⟨_, rfl⟩
  obtain ⟨d2, e2⟩ : ∃ d, d = lvD b t := ⟨_, rfl⟩
  rw [← e1] at p2 r1
  rw [← e2] at p4 r2
  rw [← p1] at r1
  rw [← p3] at r2
  subst p2 p4
  have HF := Lib.hid (And.intro (And.intro p1 e1) (And.intro p3 e2))
  have bd := bw_bds hx hy r1 r2
  clear p1 p3 e1 e2 r1 r2
  obtain ⟨⟨b1, b2⟩, ⟨b3, b4⟩, ⟨b5, b6⟩, ⟨b7, b8⟩, ⟨b9, b10⟩, b11, b12⟩ := bd
  obtain ⟨hx1, hx2⟩ := hx
  obtain ⟨hy1, hy2⟩ := hy
  obtain ⟨E, hE⟩ : ∃ E : Nat, (x + y) * (d1 : Int) * (d2 : Int) = E := ⟨((x + y) * (d1 : Int) * (d2 : Int)).toNat, by omega⟩
  have HRED : Hid (rdN (bwM a b x y t) (bwE a b x y t) = rdN (y * N1 * d2 + x * N2 * d1) E ∧ rdD (bwM a b x y t) (bwE a b x y t) = rdD (y * N1 * d2 + x * N2 * d1) E) := by
    have g1 : bwM a b x y t = y * N1 * d2 + x * N2 * d1 := by unfold bwM; rw [← HF.out.1.1, ← HF.out.1.2, ← HF.out.2.1, ← HF.out.2.2]
    have g2 : bwE a b x y t = E := by
      have hxy : (((x + y).toNat : Nat) : Int) = x + y := by omega
      refine Int.ofNat_inj.1 ?_
      unfold bwE
      rw [← HF.out.1.2, ← HF.out.2.2, Int.natCast_mul, Int.natCast_mul, hxy]
      exact hE
    unfold Hid
    rw [g1, g2]
    exact ⟨rfl, rfl⟩
  have hE1 : 0 < E ∧ E ≤ 72000000 := by omega
  go_wp2_with fail
  refine (reduce_spec (y * N1 * d2 + x * N2 * d1) E _ (by omega) (by omega) hE1.1 (by omega)).mono ?_
  rintro e w5 ⟨rfl, hb⟩
  have HB5 := Lib.hid (bthen HB4.out hb HB4.out.size)
  clear hb
  go_wp2_with fail
  go_ret3
  exact bw_yes HR.out HRED.out HB5.out
end Go.Proofs.Ytdmnkmdlochogaa
