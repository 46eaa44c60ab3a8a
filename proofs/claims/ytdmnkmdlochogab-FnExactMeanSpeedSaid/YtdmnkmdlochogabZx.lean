/-
  One cast and a number: contracts of SpeedAt, TravelTo, DepthFor, MeanSpeed of spec and impl over this translation. Conditions: stated at each theorem.
-/
import Derived.Test.YtdmnkmdlochogabZt
import Derived.Test.YtdmnkmdlochogabZw
namespace Go.Proofs.Ytdmnkmdlochogab
open Go.RowKit
set_option linter.unusedVariables false

def oneK (v : KC) (n lo hi : Int) : Bool := castB v && inB n lo hi
def oneV (K : Bool) (x : Int) : Int := if K = true then x else 0
theorem ret_ib {a b : Int} {x y : Bool} (h : a = b) (k : x = y) : Ending.returned (.tuple #[.int .i64 a, .bool x]) = .returned (.tuple #[.int .i64 b, .bool y]) := by rw [h, k]
theorem ret_iib {a b a' b' : Int} {x y : Bool} (h : a = b) (h' : a' = b') (k : x = y) : Ending.returned (.tuple #[.int .i64 a, .int .i64 a', .bool x]) = .returned (.tuple #[.int .i64 b, .int .i64 b', .bool y]) := by rw [h, h', k]
def OnePostK (K : Bool) (x : Int) (w : World) (e : Ending) (w' : World) : Prop := e = .returned (.tuple #[.int .i64 (oneV K x), .bool K]) ∧ Below w.heap.size w w'
theorem one_no1 {v : KC} {n lo hi x : Int} (h : castB v = false) : Ending.returned (.tuple #[.int .i64 0, .bool false]) = .returned (.tuple #[.int .i64 (oneV (oneK v n lo hi) x), .bool (oneK v n lo hi)]) := by unfold oneV oneK; rw [h]; rfl
theorem one_no2 {v : KC} {n lo hi x : Int} (h : inB n lo hi = false) : Ending.returned (.tuple #[.int .i64 0, .bool false]) = .returned (.tuple #[.int .i64 (oneV (oneK v n lo hi) x), .bool (oneK v n lo hi)]) := by unfold oneV oneK; rw [h, Bool.and_false]; rfl
theorem one_yes {v : KC} {n lo hi x : Int} (h : castB v = true) (k : inB n lo hi = true) : Ending.returned (.tuple #[.int .i64 x, .bool true]) = .returned (.tuple #[.int .i64 (oneV (oneK v n lo hi) x), .bool (oneK v n lo hi)]) := by unfold oneV oneK; rw [h, k]; rfl
/-! ### MeanSpeed -/
def mnN (l : List (Int × Int)) (d : Int) : Int := (mnS l d).tdiv (gd (mnS l d) d.toNat : Nat)
def mnD (l : List (Int × Int)) (d : Int) : Int := d / (gd (mnS l d) d.toNat : Nat)
def MeanPost (K : Bool) (x y : Int) (w : World) (e : Ending) (w' : World) : Prop := e = .returned (.tuple #[.int .i64 (oneV K x), .int .i64 (oneV K y), .bool K]) ∧ Below w.heap.size w w'
theorem mean_no {K : Bool} {x y : Int} (h : K = false) : Ending.returned (.tuple #[.int .i64 0, .int .i64 0, .bool false]) = .returned (.tuple #[.int .i64 (oneV K x), .int .i64 (oneV K y), .bool K]) := by subst h; rfl
theorem mean_yes {K : Bool} {x y : Int} (h : K = true) : Ending.returned (.tuple #[.int .i64 x, .int .i64 y, .bool true]) = .returned (.tuple #[.int .i64 (oneV K x), .int .i64 (oneV K y), .bool K]) := by subst h; rfl
theorem oneK_no1 {v : KC} {n lo hi : Int} (h : castB v = false) : oneK v n lo hi = false := by unfold oneK; rw [h]; rfl
theorem oneK_no2 {v : KC} {n lo hi : Int} (h : inB n lo hi = false) : oneK v n lo hi = false := by unfold oneK; rw [h, Bool.and_false]
theorem oneK_yes {v : KC} {n lo hi : Int} (h : castB v = true) (k : inB n lo hi = true) : oneK v n lo hi = true := by unfold oneK; rw [h, k]; rfl
theorem gd_pos (x : Int) {d : Nat} (h : 0 < d) : 0 < gd x d := Nat.gcd_pos_of_pos_right _ h
set_option maxHeartbeats 3200000 in
theorem mean_impl (id tm x0 y0 d : Int) (A : Option Addr) (n c : Nat) (l : List (Int × Int)) (w : World) (hs : Spots w w.heap.size A n l) (hm : n ≤ maxLen) :
    Calls Try.prog 61 #[.agg #[.int .i64 id, .int .i64 tm, .int .i64 x0, .int .i64 y0, .slice A n c], .int .i64 d] w (MeanPost (oneK ⟨id, tm, x0, y0, l⟩ d 1 20000) (mnN l d) (mnD l d) w) := by
  have HS := Lib.hid hs
  clear hs
  rcases hc : castB ⟨id, tm, x0, y0, l⟩ with _ | _
  · have HC := Lib.hid hc
    have HR := Lib.hid (mean_no (x := mnN l d) (y := mnD l d) (oneK_no1 (n := d) (lo := 1) (hi := 20000) hc))
    clear hc
    go_enter Try.func61, Try.ntmps61
    go_wp2_with fail
    refine (isC_v _ _ _ _ A n c l _ HC.out _ (spots_alloc HS.out _) hm).mono ?_
    rintro e w1 ⟨rfl, hb⟩
    have HX := Lib.hid (box1 hb)
    have HS1 := Lib.hid (spots_at HS.out (box1 hb).1)
    clear hb
    go_wp2_with fail
    go_ret3
    exact ⟨HR.out, HX.out.1⟩
  rcases hd : inB d 1 20000 with _ | _
  · have HC := Lib.hid hc
    have HD := Lib.hid hd
    have HR := Lib.hid (mean_no (x := mnN l d) (y := mnD l d) (oneK_no2 (v := ⟨id, tm, x0, y0, l⟩) hd))
    clear hc hd
    go_enter Try.func61, Try.ntmps61
    go_wp2_with fail
    refine (isC_v _ _ _ _ A n c l _ HC.out _ (spots_alloc HS.out _) hm).mono ?_
    rintro e w1 ⟨rfl, hb⟩
    have HX := Lib.hid (box1 hb)
    have HS1 := Lib.hid (spots_at HS.out (box1 hb).1)
    clear hb
    go_wp2_with fail
    refine (within_v _ _ _ _ HD.out _).mono ?_
    rintro e w' ⟨rfl, rfl⟩
    go_wp2_with fail
    go_ret3
    exact ⟨HR.out, HX.out.1⟩
  have HC := Lib.hid hc
  have HD := Lib.hid hd
  have HR := Lib.hid (mean_yes (x := mnN l d) (y := mnD l d) (oneK_yes hc hd))
  have hl := castB_lays hc
  have hdd := inB_yes hd
  obtain ⟨hd1, hd2⟩ := hdd
  obtain rfl := HS.out.1
  simp only at hl
  clear hc hd
  obtain ⟨D, hD⟩ : ∃ D : Nat, d = (D : Int) ∧ 0 < D ∧ D ≤ 20000 := ⟨d.toNat, by omega, by omega, by omega⟩
  obtain ⟨rfl, hD1, hD2⟩ := hD
  have HMD : Hid (mnN l D = (mnS l D).tdiv (gd (mnS l D) D : Nat) ∧ mnD l D = (D : Int) / (gd (mnS l D) D : Nat)) := by unfold Hid mnN mnD; rw [Int.toNat_natCast]; exact ⟨rfl, rfl⟩
  have hb := mnS_bd hl (d := (D : Int)) (by omega)
  obtain ⟨hb1, hb2⟩ := hb
  go_enter Try.func61, Try.ntmps61
  go_wp2_with fail
  refine (isC_v _ _ _ _ A _ c l _ HC.out _ (spots_alloc HS.out _) hm).mono ?_
  rintro e w1 ⟨rfl, hb⟩
  have HX := Lib.hid (box1 hb)
  have HS1 := Lib.hid (spots_at HS.out (box1 hb).1)
  clear hb
  have c0 := HX.out.2.at_ 0 _ rfl
  have c1 := HX.out.2.at_ 1 _ rfl
  have c2 := HX.out.2.at_ 2 _ rfl
  have c3 := HX.out.2.at_ 3 _ rfl
  have c4 := HX.out.2.at_ 4 _ rfl
  go_wp2_with fail
  refine (within_v _ _ _ _ HD.out _).mono ?_
  rintro e w' ⟨rfl, rfl⟩
  go_wp2_with fail
  refine (sum_mn A _ c l (D : Int) _ HS1.out hl (by omega) (by omega)).mono ?_
  rintro e w2 ⟨rfl, hb⟩
  have HB2 := Lib.hid (bthen HX.out.1 hb HX.out.1.size)
  rw [← mn_sg]
  rw [show mnK l (D : Int) l.length = mnS l D from rfl]
  clear hb c0 c1 c2 c3 c4
  obtain ⟨SS, hSS⟩ : ∃ S, mnS l D = S := ⟨_, rfl⟩
  have HSS := Lib.hid hSS
  rw [hSS] at hb1 hb2 ⊢
  go_wp2_with fail
  refine (lowest_impl SS D _ (by omega) (by omega) hD1 (by omega)).mono ?_
  rintro e w3 ⟨rfl, hb⟩
  have HB3 := Lib.hid (bthen HB2.out hb HB2.out.size)
  clear hb
  go_wp2_with fail
  go_ret3
  have HR3 : Hid (Ending.returned (.tuple #[.int .i64 (SS.tdiv (gd SS D : Nat)), .int .i64 ((D : Int) / (gd SS D : Nat)), .bool true]) = .returned (.tuple #[.int .i64 (oneV (oneK ⟨id, tm, x0, y0, l⟩ D 1 20000) (mnN l D)), .int .i64 (oneV (oneK ⟨id, tm, x0, y0, l⟩ D 1 20000) (mnD l D)), .bool (oneK ⟨id, tm, x0, y0, l⟩ D 1 20000)])) := by have h := HR.out; rw [HMD.out.1, HMD.out.2, HSS.out] at h ⊢; exact h
  exact ⟨HR3.out, HB3.out⟩
set_option maxHeartbeats 3200000 in
theorem mean_spec (id tm x0 y0 d : Int) (A : Option Addr) (n c : Nat) (l : List (Int × Int)) (w : World) (hs : Spots w w.heap.size A n l) (hm : n ≤ maxLen) :
    Calls Try.prog 62 #[.agg #[.int .i64 id, .int .i64 tm, .int .i64 x0, .int .i64 y0, .slice A n c], .int .i64 d] w (MeanPost (oneK ⟨id, tm, x0, y0, l⟩ d 1 20000) (mnN l d) (mnD l d) w) := by
  have HS := Lib.hid hs
  clear hs
  rcases hc : castB ⟨id, tm, x0, y0, l⟩ with _ | _
  · have HC := Lib.hid hc
    have HR := Lib.hid (mean_no (x := mnN l d) (y := mnD l d) (oneK_no1 (n := d) (lo := 1) (hi := 20000) hc))
    clear hc
    go_enter Try.func62, Try.ntmps62
    go_wp2_with fail
    refine (one_v _ _ _ _ A n c l _ HC.out _ (spots_alloc HS.out _) hm).mono ?_
    rintro e w1 ⟨rfl, hb⟩
    have HX := Lib.hid (box1 hb)
    have HS1 := Lib.hid (spots_at HS.out (box1 hb).1)
    clear hb
    go_wp2_with fail
    go_ret3
    exact ⟨HR.out, HX.out.1⟩
  rcases hd0 : inB d 0 20000 with _ | _
  · have HC := Lib.hid hc
    have HD := Lib.hid hd0
    have HR := Lib.hid (mean_no (x := mnN l d) (y := mnD l d) (oneK_no2 (v := ⟨id, tm, x0, y0, l⟩) (n := d) (lo := 1) (hi := 20000) (decide_eq_false (by have := inB_no hd0; omega))))
    clear hc hd0
    go_enter Try.func62, Try.ntmps62
    go_wp2_with fail
    refine (one_v _ _ _ _ A n c l _ HC.out _ (spots_alloc HS.out _) hm).mono ?_
    rintro e w1 ⟨rfl, hb⟩
    have HX := Lib.hid (box1 hb)
    have HS1 := Lib.hid (spots_at HS.out (box1 hb).1)
    clear hb
    go_wp2_with fail
    refine (dep_spec _ _ HD.out _).mono ?_
    rintro e w' ⟨rfl, rfl⟩
    go_wp2_with fail
    go_ret3
    exact ⟨HR.out, HX.out.1⟩
  by_cases hz : d = 0
  · subst hz
    have HC := Lib.hid hc
    have HD := Lib.hid hd0
    have HR := Lib.hid (mean_no (x := mnN l 0) (y := mnD l 0) (oneK_no2 (v := ⟨id, tm, x0, y0, l⟩) (n := 0) (lo := 1) (hi := 20000) (decide_eq_false (by omega))))
    clear hc hd0
    go_enter Try.func62, Try.ntmps62
    go_wp2_with fail
    refine (one_v _ _ _ _ A n c l _ HC.out _ (spots_alloc HS.out _) hm).mono ?_
    rintro e w1 ⟨rfl, hb⟩
    have HX := Lib.hid (box1 hb)
    have HS1 := Lib.hid (spots_at HS.out (box1 hb).1)
    clear hb
    go_wp2_with fail
    refine (dep_spec _ _ HD.out _).mono ?_
    rintro e w' ⟨rfl, rfl⟩
    go_wp2_with fail
    go_ret3
    exact ⟨HR.out, HX.out.1⟩
  have hzb : (d == 0) = false := beq_eq_false_iff_ne.2 hz
  have hd : inB d 1 20000 = true := by have := inB_yes hd0; exact inB_mk (by omega) (by omega)
  have HC := Lib.hid hc
  have HD := Lib.hid hd0
  have HR := Lib.hid (mean_yes (x := mnN l d) (y := mnD l d) (oneK_yes hc hd))
  have hl := castB_lays hc
  have hdd := inB_yes hd
  obtain ⟨hd1, hd2⟩ := hdd
  obtain rfl := HS.out.1
  simp only at hl
  clear hc hd hd0
  obtain ⟨D, hD⟩ : ∃ D : Nat, d = (D : Int) ∧ 0 < D ∧ D ≤ 20000 := ⟨d.toNat, by omega, by omega, by omega⟩
  obtain ⟨rfl, hD1, hD2⟩ := hD
  have HMD : Hid (mnN l D = (mnS l D).tdiv (gd (mnS l D) D : Nat) ∧ mnD l D = (D : Int) / (gd (mnS l D) D : Nat)) := by unfold Hid mnN mnD; rw [Int.toNat_natCast]; exact ⟨rfl, rfl⟩
  have hb := mnS_bd hl (d := (D : Int)) (by omega)
  obtain ⟨hb1, hb2⟩ := hb
  go_enter Try.func62, Try.ntmps62
  go_wp2_with fail
  refine (one_v _ _ _ _ A _ c l _ HC.out _ (spots_alloc HS.out _) hm).mono ?_
  rintro e w1 ⟨rfl, hb⟩
  have HX := Lib.hid (box1 hb)
  have HS1 := Lib.hid (spots_at HS.out (box1 hb).1)
  clear hb
  have c0 := HX.out.2.at_ 0 _ rfl
  have c1 := HX.out.2.at_ 1 _ rfl
  have c2 := HX.out.2.at_ 2 _ rfl
  have c3 := HX.out.2.at_ 3 _ rfl
  have c4 := HX.out.2.at_ 4 _ rfl
  go_wp2_with fail
  refine (dep_spec _ _ HD.out _).mono ?_
  rintro e w' ⟨rfl, rfl⟩
  go_wp2_with fail
  clear c0 c1 c2 c3 c4
  go_loopw [7, 8] (fun s i wr => ∃ k : Nat, k ≤ l.length ∧ i = .int .i64 k ∧ s = .int .i64 (mnK l D k) ∧ Hid (Below w1.heap.size w1 wr)) (fun _ i _ => l.length - (intOf i).toNat)
  case atStart => exact ⟨0, Nat.zero_le _, rfl, rfl, Lib.hid (Below.refl _ _)⟩
  case round =>
    obtain ⟨k, hk, rfl, rfl, hB⟩ := hrel
    have h8 := hl.max
    have HA := Lib.hid (HX.out.2.next hB.out)
    have HBW := Lib.hid (bthen HX.out.1 hB.out HX.out.1.size)
    have c4 := HA.out.at_ 4 _ rfl
    by_cases hlt : k < l.length
    · have HSk := Lib.hid (spots_at HS1.out hB.out)
      obtain ⟨b, o, x, y, rfl, hbl, hlk, hc0, hc1⟩ := HSk.out.2 k hlt
      obtain ⟨T, hT⟩ : ∃ T, thc l k D = T := ⟨_, rfl⟩
      obtain ⟨S, hS⟩ : ∃ S, mnK l D k = S := ⟨_, rfl⟩
      have ht := thc_bd hl hlt (d := (D : Int)) (by omega)
      have hsb := mnK_bd hl (d := (D : Int)) (by omega) hk
      have htk := thK_le hl (d := (D : Int)) (by omega) hk
      have hy := hl.spd k hlt
      rw [spdAt_at hlk] at hy
      have HR2 : Hid (mnK l D (k + 1) = S + T * y) := by unfold Hid; rw [mnK, hT, hS, spdAt_at hlk]
      rw [hT] at ht
      rw [hS] at hsb
      obtain ⟨ht1, ht2⟩ := ht
      obtain ⟨hs1, hs2, hs3⟩ := hsb
      obtain ⟨hy1, hy2⟩ := hy
      have hq1 : 0 ≤ T * y := Int.mul_nonneg (by omega) (by omega)
      have hq2 : T * y ≤ T * 16000 := Int.mul_le_mul_of_nonneg_left hy2 ht1
      have hs4 : 0 ≤ S := by omega
      have hs5 : S ≤ 320000000 := by omega
      have HT := Lib.hid hT
      rw [hS]
      clear hlk hT hS hs1 hs2 hs3 htk
      have c0 := HA.out.at_ 0 _ rfl
      have c1 := HA.out.at_ 1 _ rfl
      have c2 := HA.out.at_ 2 _ rfl
      have c3 := HA.out.at_ 3 _ rfl
      obtain ⟨W1, rfl⟩ : ∃ W : World, W = wr := ⟨_, rfl⟩
      go_wp2_with fail
      have lc0 := lcell (c0)
      have lc1 := lcell (c1)
      have lc2 := lcell (c2)
      have lc3 := lcell (c3)
      have lc4 := lcell (c4)
      have lc5 := lcell (hc1)
      refine region_later (W := W1) (by kernel_rfl) (by kernel_rfl) (Below.refl _ _) ?_
      repeat (go_big_quiet_step (((go_at_call 131; go_loud (exact later_call (thick_spec _ _ _ _ _ _ _ _ _ l _ HT.out _ (spots_more HSk.out (Later.below _)) hl hlt (by omega) (by omega)))))))
      refine wpQuiet_nil ?_
      intro W2 hW1
      have HL : Hid (Below W1.heap.size W1 W2) := by obtain ⟨x, rfl⟩ := hW1; exact Lib.hid x.below
      clear hW1 lc0 lc1 lc2 lc3 lc4 lc5
      have HT2 := Lib.hid (bthen hB.out HL.out hB.out.size)
      clear c0 c1 c2 c3 c4 hc0 hc1
      go_wp2_with fail
      go_roundw
      case rel => exact ⟨k + 1, by omega, by go_num, by rw [HR2.out], HT2⟩
      case measure => simp [intOf]; omega
    · obtain rfl : k = l.length := by omega
      rw [show mnK l (D : Int) l.length = mnS l D from rfl]
      obtain ⟨SS, hSS⟩ : ∃ S, mnS l D = S := ⟨_, rfl⟩
      have HSS := Lib.hid hSS
      rw [hSS] at hb1 hb2 ⊢
      go_wp2_with fail
      refine (reduce_spec SS D _ (by omega) (by omega) hD1 (by omega)).mono ?_
      rintro e w3 ⟨rfl, hb⟩
      have HB3 := Lib.hid (bthen HBW.out hb HBW.out.size)
      clear hb
      go_wp2_with fail
      go_ret3
      have HR3 : Hid (Ending.returned (.tuple #[.int .i64 (SS.tdiv (gd SS D : Nat)), .int .i64 ((D : Int) / (gd SS D : Nat)), .bool true]) = .returned (.tuple #[.int .i64 (oneV (oneK ⟨id, tm, x0, y0, l⟩ D 1 20000) (mnN l D)), .int .i64 (oneV (oneK ⟨id, tm, x0, y0, l⟩ D 1 20000) (mnD l D)), .bool (oneK ⟨id, tm, x0, y0, l⟩ D 1 20000)])) := by have h := HR.out; rw [HMD.out.1, HMD.out.2, HSS.out] at h ⊢; exact h
      exact ⟨HR3.out, HB3.out⟩
end Go.Proofs.Ytdmnkmdlochogab
