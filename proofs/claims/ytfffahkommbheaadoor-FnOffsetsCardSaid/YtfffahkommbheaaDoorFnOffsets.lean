/-
  Proved here: for every code the law laws.FnOffsets returns true, and the code reads afterwards as before.
  Conditions: the row's own; the listed tables (math/bits.deBruijn32tab, math/bits.deBruijn64tab, internal/strconv.uint64pow10) start as the program's text lays them, which the card ties.
-/
import Derived.Test.YtfffahkommbheaaDoorRows
import Derived.Test.YtfffahkommbheaaDoorCards
import Derived.Test.YtfffahkommbheaaDoorTie
import Derived.Test.YtfffahkommbheaaDoorRb
import Derived.Test.YtfffahkommbheaaDoorOc
import Derived.Test.YtfffahkommbheaaDoorDi
import Derived.Test.YtfffahkommbheaaDoorVa
import Derived.Test.YtfffahkommbheaaDoorVs
import Derived.Test.YtfffahkommbheaaDoorVn
import Derived.Stop.LaidErr
import Derived.WalkKit
import Derived.ProofKit
import Derived.OpenShut
import Derived.ShutString
import Derived.SizedLaws
import Derived.LaidLaws
import Derived.LaidMore
import Derived.SevenTiedAt
import Derived.Stop.Joined
namespace Go.Proofs.YtfffahkommbheaaDoor.fnOffsets
open Go.Joins Go.ChangeShapes Go.WideShapes Go.ChangeAt Go.RowKit Go.Deep
set_option linter.unusedVariables false

theorem ownK : ownKnob Tryd.prog.godebug = none := by kernel_rfl
def laid : List (String × DataW Unit) := [("math/bits.deBruijn32tab", Rows.laid_math_bits_deBruijn32tab), ("math/bits.deBruijn64tab", Rows.laid_math_bits_deBruijn64tab), ("internal/strconv.uint64pow10", Rows.laid_internal_strconv_uint64pow10)]
theorem cellsPow : Tryd.prog.cellsOf 72 = 20 := by kernel_rfl
theorem cellsU : Tryd.prog.cellsOf 43 = 1 := by kernel_rfl
theorem gPow : Tryd.prog.globalNamed "internal/strconv.uint64pow10" = some 0 := by kernel_rfl
theorem tPow : (Tryd.prog.globals[0]?).map (·.type) = some 72 := by kernel_rfl
/-- The table of powers of ten, out of the row's condition. -/
theorem pow10_of_laid {w : World} (hL : laidMet Tryd.prog laid w) : Pow10 w := by
  have h2 : laidMet Tryd.prog (("internal/strconv.uint64pow10", Lib.tabData .u64 Lib.pow10Tab) :: []) w := laidMet.tail (laidMet.tail hL)
  exact Lib.tabIs_of_head gPow tPow Tryd.underlying72 Tryd.underlying43 cellsU cellsPow h2

theorem soundI_v (v : CC) (x y h E N : Int) (K : Bool) (hR : plR 1 v x y h = (E, N, K)) (w : World) (hn : v.nm.size ≤ maxLen) :
    Calls Tryd.prog 7 #[.agg #[.int .i64 v.id, .string v.nm, .int .i64 v.dr, .int .i64 v.ah, .int .i64 v.be, .int .i64 v.sp, .int .i64 v.fu], .int .i64 x, .int .i64 y, .int .i64 h] w fun e w' => e = .returned (.tuple #[.int .i64 E, .int .i64 N, .bool K]) ∧ Below w.heap.size w w' := by
  have := sound_impl v x y h w hn
  unfold PlPost at this
  rwa [hR] at this
theorem soundS_v (v : CC) (x y h E N : Int) (K : Bool) (hR : plR 1 v x y h = (E, N, K)) (w : World) (hn : v.nm.size ≤ maxLen) :
    Calls Tryd.prog 8 #[.agg #[.int .i64 v.id, .string v.nm, .int .i64 v.dr, .int .i64 v.ah, .int .i64 v.be, .int .i64 v.sp, .int .i64 v.fu], .int .i64 x, .int .i64 y, .int .i64 h] w fun e w' => e = .returned (.tuple #[.int .i64 E, .int .i64 N, .bool K]) ∧ Below w.heap.size w w' := by
  have := sound_spec v x y h w hn
  unfold PlPost at this
  rwa [hR] at this
theorem antI_v (v : CC) (x y h E N : Int) (K : Bool) (hR : plR (-1) v x y h = (E, N, K)) (w : World) (hn : v.nm.size ≤ maxLen) :
    Calls Tryd.prog 9 #[.agg #[.int .i64 v.id, .string v.nm, .int .i64 v.dr, .int .i64 v.ah, .int .i64 v.be, .int .i64 v.sp, .int .i64 v.fu], .int .i64 x, .int .i64 y, .int .i64 h] w fun e w' => e = .returned (.tuple #[.int .i64 E, .int .i64 N, .bool K]) ∧ Below w.heap.size w w' := by
  have := ant_impl v x y h w hn
  unfold PlPost at this
  rwa [hR] at this
theorem antS_v (v : CC) (x y h E N : Int) (K : Bool) (hR : plR (-1) v x y h = (E, N, K)) (w : World) (hn : v.nm.size ≤ maxLen) :
    Calls Tryd.prog 10 #[.agg #[.int .i64 v.id, .string v.nm, .int .i64 v.dr, .int .i64 v.ah, .int .i64 v.be, .int .i64 v.sp, .int .i64 v.fu], .int .i64 x, .int .i64 y, .int .i64 h] w fun e w' => e = .returned (.tuple #[.int .i64 E, .int .i64 N, .bool K]) ∧ Below w.heap.size w w' := by
  have := ant_spec v x y h w hn
  unfold PlPost at this
  rwa [hR] at this
theorem secS_v (v : CC) (m x : Int) (k : Bool) (hx : secV v m = x) (hk : secK v m = k) (w : World) (hn : v.nm.size ≤ maxLen) :
    Calls Tryd.prog 13 #[.agg #[.int .i64 v.id, .string v.nm, .int .i64 v.dr, .int .i64 v.ah, .int .i64 v.be, .int .i64 v.sp, .int .i64 v.fu], .int .i64 m] w fun e w' => e = .returned (.tuple #[.int .i64 x, .bool k]) ∧ Below w.heap.size w w' := by
  subst hx hk
  exact secs_spec v m w hn
theorem textI_v (v : CC) (T : ByteArray) (k : Bool) (hT : ctT v = T) (hk : craftB v = k) (w : World) (hn : v.nm.size ≤ maxLen) (ht : Pow10 w) :
    Calls Tryd.prog 15 #[.agg #[.int .i64 v.id, .string v.nm, .int .i64 v.dr, .int .i64 v.ah, .int .i64 v.be, .int .i64 v.sp, .int .i64 v.fu]] w fun e w' => e = .returned (.tuple #[.string T, .bool k]) ∧ Below w.heap.size w w' := by
  subst hT hk
  exact text_impl v w hn ht
theorem textS_v (v : CC) (T : ByteArray) (k : Bool) (hT : ctT v = T) (hk : craftB v = k) (w : World) (hn : v.nm.size ≤ maxLen) :
    Calls Tryd.prog 16 #[.agg #[.int .i64 v.id, .string v.nm, .int .i64 v.dr, .int .i64 v.ah, .int .i64 v.be, .int .i64 v.sp, .int .i64 v.fu]] w fun e w' => e = .returned (.tuple #[.string T, .bool k]) ∧ Below w.heap.size w w' := by
  subst hT hk
  exact text_spec v w hn
theorem plR_k {d : Int} {v : CC} {x y h E N : Int} {K : Bool} (hR : plR d v x y h = (E, N, K)) : plK v x y h = K := by
  unfold plR at hR
  split at hR
  · rename_i hk; injection hR with _ h2; injection h2 with _ h3; rw [hk, h3]
  · rename_i hk; injection hR with _ h2; injection h2 with _ h3; rw [← h3]; simpa using hk
theorem plR_yes {d : Int} {v : CC} {x y h E N : Int} (hR : plR d v x y h = (E, N, true)) : E = x + d * (offC v h.toNat).1 ∧ N = y + d * (offC v h.toNat).2 := by
  have hk := plR_k hR
  unfold plR at hR
  rw [if_pos hk] at hR
  injection hR with h1 h2
  injection h2 with h2 _
  exact ⟨h1.symm, h2.symm⟩
/-- The sounder and the antenna lie on both sides of the place. -/
theorem both {v : CC} {x y h a b c d : Int} (h1 : plR 1 v x y h = (a, b, true)) (h2 : plR (-1) v x y h = (c, d, true)) : a + c = 2 * x ∧ b + d = 2 * y ∧ (0 ≤ x ∧ x ≤ 10000) ∧ (0 ≤ y ∧ y ≤ 10000) ∧ (-500 ≤ a ∧ a ≤ 10500) ∧ (-500 ≤ b ∧ b ≤ 10500) ∧ (-500 ≤ c ∧ c ≤ 10500) ∧ (-500 ≤ d ∧ d ≤ 10500) := by
  obtain ⟨e1, e2⟩ := plR_yes h1
  obtain ⟨e3, e4⟩ := plR_yes h2
  obtain ⟨hv, hx, hy, _⟩ := plK_parts (plR_k h1)
  have hl := offC_lim hv h.toNat
  omega
theorem back {v : CC} {x y h c d p q : Int} (h2 : plR (-1) v x y h = (c, d, true)) (h3 : plR 1 v c d h = (p, q, true)) : p = x ∧ q = y := by
  obtain ⟨e1, e2⟩ := plR_yes h2
  obtain ⟨e3, e4⟩ := plR_yes h3
  omega
/-- Seconds are rounded up. -/
theorem sec_up {v : CC} {m s : Int} (hk : secK v m = true) (hs : secV v m = s) : (1 ≤ v.sp ∧ v.sp ≤ 60) ∧ (0 ≤ m ∧ m ≤ 100000) ∧ (0 ≤ s ∧ s ≤ 1000059) ∧ 10 * m ≤ s * v.sp ∧ s * v.sp ≤ 100000000 ∧ (0 < s → (s - 1) * v.sp < 10 * m) ∧ 0 ≤ s * v.sp := by
  have hk' := hk
  unfold secK at hk'
  rw [Bool.and_eq_true] at hk'
  have hm := inB_yes hk'.2
  obtain ⟨_, _, _, _, hsp, _⟩ := craftB_parts hk'.1
  have hl := secU_lim hk'.1 hm
  have e : s = (10 * m + v.sp - 1) / v.sp := by rw [← hs]; unfold secV; rw [hk, if_pos rfl]; rfl
  have e0 : secU v m = s := by rw [← hs]; unfold secV; rw [hk, if_pos rfl]
  rw [e0] at hl
  have h1 := Int.emod_add_mul_ediv (10 * m + v.sp - 1) v.sp
  have h2 := Int.emod_nonneg (10 * m + v.sp - 1) (show v.sp ≠ 0 by omega)
  have h3 := Int.emod_lt_of_pos (10 * m + v.sp - 1) (show 0 < v.sp by omega)
  rw [← e] at h1
  have h5 : v.sp * s = s * v.sp := Int.mul_comm _ _
  rw [h5] at h1
  have h4 : (s - 1) * v.sp = s * v.sp - v.sp := by rw [Int.sub_mul, Int.one_mul]
  obtain ⟨r, hr⟩ : ∃ r, (10 * m + v.sp - 1) % v.sp = r := ⟨_, rfl⟩
  obtain ⟨p, hp⟩ : ∃ p, s * v.sp = p := ⟨_, rfl⟩
  rw [hr] at h1 h2 h3
  rw [hp] at h1 h4 ⊢
  rw [h4]
  refine ⟨hsp, hm, hl, by omega, by omega, fun _ => by omega, by omega⟩
/-! ### The walk: the Go text returns true, and nothing that was there has turned. -/
set_option maxRecDepth 20000 in
set_option maxHeartbeats 25600000 in
theorem walk (A : Option Addr) (n c : Nat) (w : World) (hm : n ≤ maxLen) (hr : CodeRow w.heap.size A n w) (hL : laidMet Tryd.prog laid w) :
    Calls Tryd.prog 3 #[.slice A n c] w fun e w' => e = .returned (.bool true) ∧ Below w.heap.size w w' := by
  rcases hb0 : decide ((65536 : Int) < n) with _ | _
  rotate_left
  · have HV := Lib.hid hb0
    clear hb0
    go_enter Tryd.func3, Tryd.ntmps3
    go_wp2_with fail
    refine (rBig_any _ _ _ _ HV.out _).mono ?_
    rintro e w' ⟨rfl, rfl⟩
    go_wp2_with fail
    go_ret
    exact ⟨rfl, Below.refl _ _⟩
  have HV := Lib.hid hb0
  have HRW := Lib.hid hr
  have HT0 := Lib.hid (pow10_of_laid hL)
  clear hb0 hr hL
  have HB0 := Lib.hid (Below.refl w.heap.size w)
  go_enter Tryd.func3, Tryd.ntmps3
  go_wp2_with fail
  refine (rBig_any _ _ _ _ HV.out _).mono ?_
  rintro e w' ⟨rfl, rfl⟩
  go_wp2_with fail
  refine (draw_sound _ n c _ (HRW.out.below HB0.out HB0.out.size)).mono ?_
  rintro e w1 ⟨v, x, y, h, rfl, hnv, hb⟩
  have HB1 := Lib.hid (bthen HB0.out hb HB0.out.size)
  have hzv : v.nm.size ≤ maxLen := by unfold maxLen; omega
  obtain ⟨W1, hW⟩ : ∃ W, W = w1.alloc (.cells #[.int .i64 v.id, .string v.nm, .int .i64 v.dr, .int .i64 v.ah, .int .i64 v.be, .int .i64 v.sp, .int .i64 v.fu] 25) := ⟨_, rfl⟩
  have HXv_1 : Hid (Has W1 w1.heap.size [.int .i64 v.id, .string v.nm, .int .i64 v.dr, .int .i64 v.ah, .int .i64 v.be, .int .i64 v.sp, .int .i64 v.fu]) := by rw [hW]; exact Lib.hid (by simpa using Has.new w1 #[.int .i64 v.id, .string v.nm, .int .i64 v.dr, .int .i64 v.ah, .int .i64 v.be, .int .i64 v.sp, .int .i64 v.fu] 25)
  have HBa1 : Hid (Below w.heap.size w W1) := by rw [hW]; exact Lib.hid (HB1.out.alloc HB1.out.size _)
  have HE1 := Lib.hid hW
  clear hW hb
  go_upto_region 4 with fail
  rw [← HE1.out]
  obtain ⟨⟨ea, eb, K1⟩, hR1⟩ : ∃ z, plR 1 v x y h = z := ⟨_, rfl⟩
  have HR1 := Lib.hid hR1
  clear hR1
  obtain ⟨⟨ec, ed, K2⟩, hR2⟩ : ∃ z, plR (-1) v x y h = z := ⟨_, rfl⟩
  have HR2 := Lib.hid hR2
  clear hR2
  obtain rfl : K1 = K2 := (plR_k HR1.out).symm.trans (plR_k HR2.out)
  obtain ⟨⟨ep, eq, K3⟩, hR3⟩ : ∃ z, plR 1 v ec ed h = z := ⟨_, rfl⟩
  have HR3 := Lib.hid hR3
  clear hR3
  have a0 := HXv_1.out.at_ 0 _ rfl
  have a1 := HXv_1.out.at_ 1 _ rfl
  have a2 := HXv_1.out.at_ 2 _ rfl
  have a3 := HXv_1.out.at_ 3 _ rfl
  have a4 := HXv_1.out.at_ 4 _ rfl
  have a5 := HXv_1.out.at_ 5 _ rfl
  have a6 := HXv_1.out.at_ 6 _ rfl
  go_wp2_with fail
  refine (soundI_v v x y h ea eb K1 HR1.out _ hzv).mono ?_
  rintro e w2 ⟨rfl, hb⟩
  have HB2 := Lib.hid (bthen HBa1.out hb HBa1.out.size)
  have HXv_2 := Lib.hid (HXv_1.out.next hb)
  clear hb
  clear a0 a1 a2 a3 a4 a5 a6
  have a0 := HXv_2.out.at_ 0 _ rfl
  have a1 := HXv_2.out.at_ 1 _ rfl
  have a2 := HXv_2.out.at_ 2 _ rfl
  have a3 := HXv_2.out.at_ 3 _ rfl
  have a4 := HXv_2.out.at_ 4 _ rfl
  have a5 := HXv_2.out.at_ 5 _ rfl
  have a6 := HXv_2.out.at_ 6 _ rfl
  go_wp2_with fail
  refine (soundS_v v x y h ea eb K1 HR1.out _ hzv).mono ?_
  rintro e w3 ⟨rfl, hb⟩
  have HB3 := Lib.hid (bthen HB2.out hb HB2.out.size)
  have HXv_3 := Lib.hid (HXv_2.out.next hb)
  clear hb
  clear a0 a1 a2 a3 a4 a5 a6
  have a0 := HXv_3.out.at_ 0 _ rfl
  have a1 := HXv_3.out.at_ 1 _ rfl
  have a2 := HXv_3.out.at_ 2 _ rfl
  have a3 := HXv_3.out.at_ 3 _ rfl
  have a4 := HXv_3.out.at_ 4 _ rfl
  have a5 := HXv_3.out.at_ 5 _ rfl
  have a6 := HXv_3.out.at_ 6 _ rfl
  go_wp2_with fail
  refine (antI_v v x y h ec ed K1 HR2.out _ hzv).mono ?_
  rintro e w4 ⟨rfl, hb⟩
  have HB4 := Lib.hid (bthen HB3.out hb HB3.out.size)
  have HXv_4 := Lib.hid (HXv_3.out.next hb)
  clear hb
  clear a0 a1 a2 a3 a4 a5 a6
  have a0 := HXv_4.out.at_ 0 _ rfl
  have a1 := HXv_4.out.at_ 1 _ rfl
  have a2 := HXv_4.out.at_ 2 _ rfl
  have a3 := HXv_4.out.at_ 3 _ rfl
  have a4 := HXv_4.out.at_ 4 _ rfl
  have a5 := HXv_4.out.at_ 5 _ rfl
  have a6 := HXv_4.out.at_ 6 _ rfl
  go_wp2_with fail
  refine (antS_v v x y h ec ed K1 HR2.out _ hzv).mono ?_
  rintro e w5 ⟨rfl, hb⟩
  have HB5 := Lib.hid (bthen HB4.out hb HB4.out.size)
  have HXv_5 := Lib.hid (HXv_4.out.next hb)
  clear hb
  clear a0 a1 a2 a3 a4 a5 a6
  have a0 := HXv_5.out.at_ 0 _ rfl
  have a1 := HXv_5.out.at_ 1 _ rfl
  have a2 := HXv_5.out.at_ 2 _ rfl
  have a3 := HXv_5.out.at_ 3 _ rfl
  have a4 := HXv_5.out.at_ 4 _ rfl
  have a5 := HXv_5.out.at_ 5 _ rfl
  have a6 := HXv_5.out.at_ 6 _ rfl
  go_wp2_with fail
  refine (soundI_v v ec ed h ep eq K3 HR3.out _ hzv).mono ?_
  rintro e w6 ⟨rfl, hb⟩
  have HB6 := Lib.hid (bthen HB5.out hb HB5.out.size)
  clear hb
  clear a0 a1 a2 a3 a4 a5 a6
  rcases K1 with _ | _
  · clear HR1 HR2 HR3
    go_wp2_with fail
    refine (draw_secs _ n c _ (HRW.out.below HB6.out HB6.out.size)).mono ?_
    rintro e w7 ⟨u, m, rfl, hnu, hb⟩
    have HB7 := Lib.hid (bthen HB6.out hb HB6.out.size)
    have hzu : u.nm.size ≤ maxLen := by unfold maxLen; omega
    obtain ⟨W7, hW⟩ : ∃ W, W = w7.alloc (.cells #[.int .i64 u.id, .string u.nm, .int .i64 u.dr, .int .i64 u.ah, .int .i64 u.be, .int .i64 u.sp, .int .i64 u.fu] 25) := ⟨_, rfl⟩
    have HXu_7 : Hid (Has W7 w7.heap.size [.int .i64 u.id, .string u.nm, .int .i64 u.dr, .int .i64 u.ah, .int .i64 u.be, .int .i64 u.sp, .int .i64 u.fu]) := by rw [hW]; exact Lib.hid (by simpa using Has.new w7 #[.int .i64 u.id, .string u.nm, .int .i64 u.dr, .int .i64 u.ah, .int .i64 u.be, .int .i64 u.sp, .int .i64 u.fu] 25)
    have HBa7 : Hid (Below w.heap.size w W7) := by rw [hW]; exact Lib.hid (HB7.out.alloc HB7.out.size _)
    have HE7 := Lib.hid hW
    clear hW hb
    go_upto_region 18 with fail
    rw [← HE7.out]
    obtain ⟨s, hs⟩ : ∃ s, secV u m = s := ⟨_, rfl⟩
    obtain ⟨K8, hK8⟩ : ∃ K, secK u m = K := ⟨_, rfl⟩
    have HS8 := Lib.hid hs
    have HK8 := Lib.hid hK8
    clear hs hK8
    have a0 := HXu_7.out.at_ 0 _ rfl
    have a1 := HXu_7.out.at_ 1 _ rfl
    have a2 := HXu_7.out.at_ 2 _ rfl
    have a3 := HXu_7.out.at_ 3 _ rfl
    have a4 := HXu_7.out.at_ 4 _ rfl
    have a5 := HXu_7.out.at_ 5 _ rfl
    have a6 := HXu_7.out.at_ 6 _ rfl
    go_wp2_with fail
    refine (secs_v u m s K8 HS8.out HK8.out _ hzu).mono ?_
    rintro e w8 ⟨rfl, hb⟩
    have HB8 := Lib.hid (bthen HBa7.out hb HBa7.out.size)
    have HXu_8 := Lib.hid (HXu_7.out.next hb)
    clear hb
    clear a0 a1 a2 a3 a4 a5 a6
    have a0 := HXu_8.out.at_ 0 _ rfl
    have a1 := HXu_8.out.at_ 1 _ rfl
    have a2 := HXu_8.out.at_ 2 _ rfl
    have a3 := HXu_8.out.at_ 3 _ rfl
    have a4 := HXu_8.out.at_ 4 _ rfl
    have a5 := HXu_8.out.at_ 5 _ rfl
    have a6 := HXu_8.out.at_ 6 _ rfl
    go_wp2_with fail
    refine (secS_v u m s K8 HS8.out HK8.out _ hzu).mono ?_
    rintro e w9 ⟨rfl, hb⟩
    have HB9 := Lib.hid (bthen HB8.out hb HB8.out.size)
    have HXu_9 := Lib.hid (HXu_8.out.next hb)
    clear hb
    clear a0 a1 a2 a3 a4 a5 a6
    have a0 := HXu_9.out.at_ 0 _ rfl
    have a1 := HXu_9.out.at_ 1 _ rfl
    have a2 := HXu_9.out.at_ 2 _ rfl
    have a3 := HXu_9.out.at_ 3 _ rfl
    have a4 := HXu_9.out.at_ 4 _ rfl
    have a5 := HXu_9.out.at_ 5 _ rfl
    have a6 := HXu_9.out.at_ 6 _ rfl
    rcases K8 with _ | _
    · clear HS8
      go_wp2_with fail
      refine (draw_text _ n c _ (HRW.out.below HB9.out HB9.out.size)).mono ?_
      rintro e w10 ⟨z, rfl, hnz, hb⟩
      have HB10 := Lib.hid (bthen HB9.out hb HB9.out.size)
      have hzz : z.nm.size ≤ maxLen := by unfold maxLen; omega
      obtain ⟨W10, hW⟩ : ∃ W, W = w10.alloc (.cells #[.int .i64 z.id, .string z.nm, .int .i64 z.dr, .int .i64 z.ah, .int .i64 z.be, .int .i64 z.sp, .int .i64 z.fu] 25) := ⟨_, rfl⟩
      have HXz_10 : Hid (Has W10 w10.heap.size [.int .i64 z.id, .string z.nm, .int .i64 z.dr, .int .i64 z.ah, .int .i64 z.be, .int .i64 z.sp, .int .i64 z.fu]) := by rw [hW]; exact Lib.hid (by simpa using Has.new w10 #[.int .i64 z.id, .string z.nm, .int .i64 z.dr, .int .i64 z.ah, .int .i64 z.be, .int .i64 z.sp, .int .i64 z.fu] 25)
      have HBa10 : Hid (Below w.heap.size w W10) := by rw [hW]; exact Lib.hid (HB10.out.alloc HB10.out.size _)
      have HE10 := Lib.hid hW
      clear hW hb
      go_upto_region 25 with fail
      rw [← HE10.out]
      obtain ⟨T, hT⟩ : ∃ T, ctT z = T := ⟨_, rfl⟩
      obtain ⟨K9, hK9⟩ : ∃ K, craftB z = K := ⟨_, rfl⟩
      have HT9 := Lib.hid hT
      have HK9 := Lib.hid hK9
      clear hT hK9
      have a0 := HXz_10.out.at_ 0 _ rfl
      have a1 := HXz_10.out.at_ 1 _ rfl
      have a2 := HXz_10.out.at_ 2 _ rfl
      have a3 := HXz_10.out.at_ 3 _ rfl
      have a4 := HXz_10.out.at_ 4 _ rfl
      have a5 := HXz_10.out.at_ 5 _ rfl
      have a6 := HXz_10.out.at_ 6 _ rfl
      go_wp2_with fail
      refine (textI_v z T K9 HT9.out HK9.out _ hzz (tabIs_below HT0.out HBa10.out)).mono ?_
      rintro e w11 ⟨rfl, hb⟩
      have HB11 := Lib.hid (bthen HBa10.out hb HBa10.out.size)
      have HXz_11 := Lib.hid (HXz_10.out.next hb)
      clear hb
      clear a0 a1 a2 a3 a4 a5 a6
      have a0 := HXz_11.out.at_ 0 _ rfl
      have a1 := HXz_11.out.at_ 1 _ rfl
      have a2 := HXz_11.out.at_ 2 _ rfl
      have a3 := HXz_11.out.at_ 3 _ rfl
      have a4 := HXz_11.out.at_ 4 _ rfl
      have a5 := HXz_11.out.at_ 5 _ rfl
      have a6 := HXz_11.out.at_ 6 _ rfl
      go_wp2_with fail
      refine (textS_v z T K9 HT9.out HK9.out _ hzz).mono ?_
      rintro e w12 ⟨rfl, hb⟩
      have HB12 := Lib.hid (bthen HB11.out hb HB11.out.size)
      have HXz_12 := Lib.hid (HXz_11.out.next hb)
      clear hb
      clear a0 a1 a2 a3 a4 a5 a6
      have a0 := HXz_12.out.at_ 0 _ rfl
      have a1 := HXz_12.out.at_ 1 _ rfl
      have a2 := HXz_12.out.at_ 2 _ rfl
      have a3 := HXz_12.out.at_ 3 _ rfl
      have a4 := HXz_12.out.at_ 4 _ rfl
      have a5 := HXz_12.out.at_ 5 _ rfl
      have a6 := HXz_12.out.at_ 6 _ rfl
      go_wp2_with fail
      refine (isCraft_v z K9 HK9.out _ hzz).mono ?_
      rintro e w13 ⟨rfl, hb⟩
      have HB13 := Lib.hid (bthen HB12.out hb HB12.out.size)
      clear hb
      clear a0 a1 a2 a3 a4 a5 a6
      go_wp2_with fail
      go_ret
      exact ⟨ret_bool (by first | rfl | simp), HB13.out⟩
    · obtain ⟨⟨p1, p2⟩, ⟨m1, m2⟩, ⟨s1, s2⟩, u1, u2, u3, u4⟩ := sec_up HK8.out HS8.out
      have hd1 : decide (s * u.sp < 10 * m) = false := decide_eq_false (by omega)
      by_cases hs0 : 0 < s
      · have u5 := u3 hs0
        have u6 : (s - 1) * u.sp = s * u.sp - u.sp := by rw [Int.sub_mul, Int.one_mul]
        have hd2 : decide (s > 0) = true := decide_eq_true hs0
        have hd3 : decide ((s - 1) * u.sp ≥ 10 * m) = false := decide_eq_false (by omega)
        clear u3
        go_wp2_with fail
        refine (draw_text _ n c _ (HRW.out.below HB9.out HB9.out.size)).mono ?_
        rintro e w10 ⟨z, rfl, hnz, hb⟩
        have HB10 := Lib.hid (bthen HB9.out hb HB9.out.size)
        have hzz : z.nm.size ≤ maxLen := by unfold maxLen; omega
        obtain ⟨W10, hW⟩ : ∃ W, W = w10.alloc (.cells #[.int .i64 z.id, .string z.nm, .int .i64 z.dr, .int .i64 z.ah, .int .i64 z.be, .int .i64 z.sp, .int .i64 z.fu] 25) := ⟨_, rfl⟩
        have HXz_10 : Hid (Has W10 w10.heap.size [.int .i64 z.id, .string z.nm, .int .i64 z.dr, .int .i64 z.ah, .int .i64 z.be, .int .i64 z.sp, .int .i64 z.fu]) := by rw [hW]; exact Lib.hid (by simpa using Has.new w10 #[.int .i64 z.id, .string z.nm, .int .i64 z.dr, .int .i64 z.ah, .int .i64 z.be, .int .i64 z.sp, .int .i64 z.fu] 25)
        have HBa10 : Hid (Below w.heap.size w W10) := by rw [hW]; exact Lib.hid (HB10.out.alloc HB10.out.size _)
        have HE10 := Lib.hid hW
        clear hW hb
        go_upto_region 25 with fail
        rw [← HE10.out]
        obtain ⟨T, hT⟩ : ∃ T, ctT z = T := ⟨_, rfl⟩
        obtain ⟨K9, hK9⟩ : ∃ K, craftB z = K := ⟨_, rfl⟩
        have HT9 := Lib.hid hT
        have HK9 := Lib.hid hK9
        clear hT hK9
        have a0 := HXz_10.out.at_ 0 _ rfl
        have a1 := HXz_10.out.at_ 1 _ rfl
        have a2 := HXz_10.out.at_ 2 _ rfl
        have a3 := HXz_10.out.at_ 3 _ rfl
        have a4 := HXz_10.out.at_ 4 _ rfl
        have a5 := HXz_10.out.at_ 5 _ rfl
        have a6 := HXz_10.out.at_ 6 _ rfl
        go_wp2_with fail
        refine (textI_v z T K9 HT9.out HK9.out _ hzz (tabIs_below HT0.out HBa10.out)).mono ?_
        rintro e w11 ⟨rfl, hb⟩
        have HB11 := Lib.hid (bthen HBa10.out hb HBa10.out.size)
        have HXz_11 := Lib.hid (HXz_10.out.next hb)
        clear hb
        clear a0 a1 a2 a3 a4 a5 a6
        have a0 := HXz_11.out.at_ 0 _ rfl
        have a1 := HXz_11.out.at_ 1 _ rfl
        have a2 := HXz_11.out.at_ 2 _ rfl
        have a3 := HXz_11.out.at_ 3 _ rfl
        have a4 := HXz_11.out.at_ 4 _ rfl
        have a5 := HXz_11.out.at_ 5 _ rfl
        have a6 := HXz_11.out.at_ 6 _ rfl
        go_wp2_with fail
        refine (textS_v z T K9 HT9.out HK9.out _ hzz).mono ?_
        rintro e w12 ⟨rfl, hb⟩
        have HB12 := Lib.hid (bthen HB11.out hb HB11.out.size)
        have HXz_12 := Lib.hid (HXz_11.out.next hb)
        clear hb
        clear a0 a1 a2 a3 a4 a5 a6
        have a0 := HXz_12.out.at_ 0 _ rfl
        have a1 := HXz_12.out.at_ 1 _ rfl
        have a2 := HXz_12.out.at_ 2 _ rfl
        have a3 := HXz_12.out.at_ 3 _ rfl
        have a4 := HXz_12.out.at_ 4 _ rfl
        have a5 := HXz_12.out.at_ 5 _ rfl
        have a6 := HXz_12.out.at_ 6 _ rfl
        go_wp2_with fail
        refine (isCraft_v z K9 HK9.out _ hzz).mono ?_
        rintro e w13 ⟨rfl, hb⟩
        have HB13 := Lib.hid (bthen HB12.out hb HB12.out.size)
        clear hb
        clear a0 a1 a2 a3 a4 a5 a6
        go_wp2_with fail
        go_ret
        exact ⟨ret_bool (by first | rfl | simp), HB13.out⟩
      · have hd2 : decide (s > 0) = false := decide_eq_false hs0
        clear u3
        go_wp2_with fail
        refine (draw_text _ n c _ (HRW.out.below HB9.out HB9.out.size)).mono ?_
        rintro e w10 ⟨z, rfl, hnz, hb⟩
        have HB10 := Lib.hid (bthen HB9.out hb HB9.out.size)
        have hzz : z.nm.size ≤ maxLen := by unfold maxLen; omega
        obtain ⟨W10, hW⟩ : ∃ W, W = w10.alloc (.cells #[.int .i64 z.id, .string z.nm, .int .i64 z.dr, .int .i64 z.ah, .int .i64 z.be, .int .i64 z.sp, .int .i64 z.fu] 25) := ⟨_, rfl⟩
        have HXz_10 : Hid (Has W10 w10.heap.size [.int .i64 z.id, .string z.nm, .int .i64 z.dr, .int .i64 z.ah, .int .i64 z.be, .int .i64 z.sp, .int .i64 z.fu]) := by rw [hW]; exact Lib.hid (by simpa using Has.new w10 #[.int .i64 z.id, .string z.nm, .int .i64 z.dr, .int .i64 z.ah, .int .i64 z.be, .int .i64 z.sp, .int .i64 z.fu] 25)
        have HBa10 : Hid (Below w.heap.size w W10) := by rw [hW]; exact Lib.hid (HB10.out.alloc HB10.out.size _)
        have HE10 := Lib.hid hW
        clear hW hb
        go_upto_region 25 with fail
        rw [← HE10.out]
        obtain ⟨T, hT⟩ : ∃ T, ctT z = T := ⟨_, rfl⟩
        obtain ⟨K9, hK9⟩ : ∃ K, craftB z = K := ⟨_, rfl⟩
        have HT9 := Lib.hid hT
        have HK9 := Lib.hid hK9
        clear hT hK9
        have a0 := HXz_10.out.at_ 0 _ rfl
        have a1 := HXz_10.out.at_ 1 _ rfl
        have a2 := HXz_10.out.at_ 2 _ rfl
        have a3 := HXz_10.out.at_ 3 _ rfl
        have a4 := HXz_10.out.at_ 4 _ rfl
        have a5 := HXz_10.out.at_ 5 _ rfl
        have a6 := HXz_10.out.at_ 6 _ rfl
        go_wp2_with fail
        refine (textI_v z T K9 HT9.out HK9.out _ hzz (tabIs_below HT0.out HBa10.out)).mono ?_
        rintro e w11 ⟨rfl, hb⟩
        have HB11 := Lib.hid (bthen HBa10.out hb HBa10.out.size)
        have HXz_11 := Lib.hid (HXz_10.out.next hb)
        clear hb
        clear a0 a1 a2 a3 a4 a5 a6
        have a0 := HXz_11.out.at_ 0 _ rfl
        have a1 := HXz_11.out.at_ 1 _ rfl
        have a2 := HXz_11.out.at_ 2 _ rfl
        have a3 := HXz_11.out.at_ 3 _ rfl
        have a4 := HXz_11.out.at_ 4 _ rfl
        have a5 := HXz_11.out.at_ 5 _ rfl
        have a6 := HXz_11.out.at_ 6 _ rfl
        go_wp2_with fail
        refine (textS_v z T K9 HT9.out HK9.out _ hzz).mono ?_
        rintro e w12 ⟨rfl, hb⟩
        have HB12 := Lib.hid (bthen HB11.out hb HB11.out.size)
        have HXz_12 := Lib.hid (HXz_11.out.next hb)
        clear hb
        clear a0 a1 a2 a3 a4 a5 a6
        have a0 := HXz_12.out.at_ 0 _ rfl
        have a1 := HXz_12.out.at_ 1 _ rfl
        have a2 := HXz_12.out.at_ 2 _ rfl
        have a3 := HXz_12.out.at_ 3 _ rfl
        have a4 := HXz_12.out.at_ 4 _ rfl
        have a5 := HXz_12.out.at_ 5 _ rfl
        have a6 := HXz_12.out.at_ 6 _ rfl
        go_wp2_with fail
        refine (isCraft_v z K9 HK9.out _ hzz).mono ?_
        rintro e w13 ⟨rfl, hb⟩
        have HB13 := Lib.hid (bthen HB12.out hb HB12.out.size)
        clear hb
        clear a0 a1 a2 a3 a4 a5 a6
        go_wp2_with fail
        go_ret
        exact ⟨ret_bool (by first | rfl | simp), HB13.out⟩
  · have hbo := both HR1.out HR2.out
    obtain ⟨b1, b2, ⟨b3, b4⟩, ⟨b5, b6⟩, ⟨b7, b8⟩, ⟨b9, b10⟩, ⟨b11, b12⟩, b13, b14⟩ := hbo
    rcases K3 with _ | _
    · clear HR1 HR2 HR3
      go_wp2_with fail
      refine (draw_secs _ n c _ (HRW.out.below HB6.out HB6.out.size)).mono ?_
      rintro e w7 ⟨u, m, rfl, hnu, hb⟩
      have HB7 := Lib.hid (bthen HB6.out hb HB6.out.size)
      have hzu : u.nm.size ≤ maxLen := by unfold maxLen; omega
      obtain ⟨W7, hW⟩ : ∃ W, W = w7.alloc (.cells #[.int .i64 u.id, .string u.nm, .int .i64 u.dr, .int .i64 u.ah, .int .i64 u.be, .int .i64 u.sp, .int .i64 u.fu] 25) := ⟨_, rfl⟩
      have HXu_7 : Hid (Has W7 w7.heap.size [.int .i64 u.id, .string u.nm, .int .i64 u.dr, .int .i64 u.ah, .int .i64 u.be, .int .i64 u.sp, .int .i64 u.fu]) := by rw [hW]; exact Lib.hid (by simpa using Has.new w7 #[.int .i64 u.id, .string u.nm, .int .i64 u.dr, .int .i64 u.ah, .int .i64 u.be, .int .i64 u.sp, .int .i64 u.fu] 25)
      have HBa7 : Hid (Below w.heap.size w W7) := by rw [hW]; exact Lib.hid (HB7.out.alloc HB7.out.size _)
      have HE7 := Lib.hid hW
      clear hW hb
      go_upto_region 18 with fail
      rw [← HE7.out]
      obtain ⟨s, hs⟩ : ∃ s, secV u m = s := ⟨_, rfl⟩
      obtain ⟨K8, hK8⟩ : ∃ K, secK u m = K := ⟨_, rfl⟩
      have HS8 := Lib.hid hs
      have HK8 := Lib.hid hK8
      clear hs hK8
      have a0 := HXu_7.out.at_ 0 _ rfl
      have a1 := HXu_7.out.at_ 1 _ rfl
      have a2 := HXu_7.out.at_ 2 _ rfl
      have a3 := HXu_7.out.at_ 3 _ rfl
      have a4 := HXu_7.out.at_ 4 _ rfl
      have a5 := HXu_7.out.at_ 5 _ rfl
      have a6 := HXu_7.out.at_ 6 _ rfl
      go_wp2_with fail
      refine (secs_v u m s K8 HS8.out HK8.out _ hzu).mono ?_
      rintro e w8 ⟨rfl, hb⟩
      have HB8 := Lib.hid (bthen HBa7.out hb HBa7.out.size)
      have HXu_8 := Lib.hid (HXu_7.out.next hb)
      clear hb
      clear a0 a1 a2 a3 a4 a5 a6
      have a0 := HXu_8.out.at_ 0 _ rfl
      have a1 := HXu_8.out.at_ 1 _ rfl
      have a2 := HXu_8.out.at_ 2 _ rfl
      have a3 := HXu_8.out.at_ 3 _ rfl
      have a4 := HXu_8.out.at_ 4 _ rfl
      have a5 := HXu_8.out.at_ 5 _ rfl
      have a6 := HXu_8.out.at_ 6 _ rfl
      go_wp2_with fail
      refine (secS_v u m s K8 HS8.out HK8.out _ hzu).mono ?_
      rintro e w9 ⟨rfl, hb⟩
      have HB9 := Lib.hid (bthen HB8.out hb HB8.out.size)
      have HXu_9 := Lib.hid (HXu_8.out.next hb)
      clear hb
      clear a0 a1 a2 a3 a4 a5 a6
      have a0 := HXu_9.out.at_ 0 _ rfl
      have a1 := HXu_9.out.at_ 1 _ rfl
      have a2 := HXu_9.out.at_ 2 _ rfl
      have a3 := HXu_9.out.at_ 3 _ rfl
      have a4 := HXu_9.out.at_ 4 _ rfl
      have a5 := HXu_9.out.at_ 5 _ rfl
      have a6 := HXu_9.out.at_ 6 _ rfl
      rcases K8 with _ | _
      · clear HS8
        go_wp2_with fail
        refine (draw_text _ n c _ (HRW.out.below HB9.out HB9.out.size)).mono ?_
        rintro e w10 ⟨z, rfl, hnz, hb⟩
        have HB10 := Lib.hid (bthen HB9.out hb HB9.out.size)
        have hzz : z.nm.size ≤ maxLen := by unfold maxLen; omega
        obtain ⟨W10, hW⟩ : ∃ W, W = w10.alloc (.cells #[.int .i64 z.id, .string z.nm, .int .i64 z.dr, .int .i64 z.ah, .int .i64 z.be, .int .i64 z.sp, .int .i64 z.fu] 25) := ⟨_, rfl⟩
        have HXz_10 : Hid (Has W10 w10.heap.size [.int .i64 z.id, .string z.nm, .int .i64 z.dr, .int .i64 z.ah, .int .i64 z.be, .int .i64 z.sp, .int .i64 z.fu]) := by rw [hW]; exact Lib.hid (by simpa using Has.new w10 #[.int .i64 z.id, .string z.nm, .int .i64 z.dr, .int .i64 z.ah, .int .i64 z.be, .int .i64 z.sp, .int .i64 z.fu] 25)
        have HBa10 : Hid (Below w.heap.size w W10) := by rw [hW]; exact Lib.hid (HB10.out.alloc HB10.out.size _)
        have HE10 := Lib.hid hW
        clear hW hb
        go_upto_region 25 with fail
        rw [← HE10.out]
        obtain ⟨T, hT⟩ : ∃ T, ctT z = T := ⟨_, rfl⟩
        obtain ⟨K9, hK9⟩ : ∃ K, craftB z = K := ⟨_, rfl⟩
        have HT9 := Lib.hid hT
        have HK9 := Lib.hid hK9
        clear hT hK9
        have a0 := HXz_10.out.at_ 0 _ rfl
        have a1 := HXz_10.out.at_ 1 _ rfl
        have a2 := HXz_10.out.at_ 2 _ rfl
        have a3 := HXz_10.out.at_ 3 _ rfl
        have a4 := HXz_10.out.at_ 4 _ rfl
        have a5 := HXz_10.out.at_ 5 _ rfl
        have a6 := HXz_10.out.at_ 6 _ rfl
        go_wp2_with fail
        refine (textI_v z T K9 HT9.out HK9.out _ hzz (tabIs_below HT0.out HBa10.out)).mono ?_
        rintro e w11 ⟨rfl, hb⟩
        have HB11 := Lib.hid (bthen HBa10.out hb HBa10.out.size)
        have HXz_11 := Lib.hid (HXz_10.out.next hb)
        clear hb
        clear a0 a1 a2 a3 a4 a5 a6
        have a0 := HXz_11.out.at_ 0 _ rfl
        have a1 := HXz_11.out.at_ 1 _ rfl
        have a2 := HXz_11.out.at_ 2 _ rfl
        have a3 := HXz_11.out.at_ 3 _ rfl
        have a4 := HXz_11.out.at_ 4 _ rfl
        have a5 := HXz_11.out.at_ 5 _ rfl
        have a6 := HXz_11.out.at_ 6 _ rfl
        go_wp2_with fail
        refine (textS_v z T K9 HT9.out HK9.out _ hzz).mono ?_
        rintro e w12 ⟨rfl, hb⟩
        have HB12 := Lib.hid (bthen HB11.out hb HB11.out.size)
        have HXz_12 := Lib.hid (HXz_11.out.next hb)
        clear hb
        clear a0 a1 a2 a3 a4 a5 a6
        have a0 := HXz_12.out.at_ 0 _ rfl
        have a1 := HXz_12.out.at_ 1 _ rfl
        have a2 := HXz_12.out.at_ 2 _ rfl
        have a3 := HXz_12.out.at_ 3 _ rfl
        have a4 := HXz_12.out.at_ 4 _ rfl
        have a5 := HXz_12.out.at_ 5 _ rfl
        have a6 := HXz_12.out.at_ 6 _ rfl
        go_wp2_with fail
        refine (isCraft_v z K9 HK9.out _ hzz).mono ?_
        rintro e w13 ⟨rfl, hb⟩
        have HB13 := Lib.hid (bthen HB12.out hb HB12.out.size)
        clear hb
        clear a0 a1 a2 a3 a4 a5 a6
        go_wp2_with fail
        go_ret
        exact ⟨ret_bool (by first | rfl | simp), HB13.out⟩
      · obtain ⟨⟨p1, p2⟩, ⟨m1, m2⟩, ⟨s1, s2⟩, u1, u2, u3, u4⟩ := sec_up HK8.out HS8.out
        have hd1 : decide (s * u.sp < 10 * m) = false := decide_eq_false (by omega)
        by_cases hs0 : 0 < s
        · have u5 := u3 hs0
          have u6 : (s - 1) * u.sp = s * u.sp - u.sp := by rw [Int.sub_mul, Int.one_mul]
          have hd2 : decide (s > 0) = true := decide_eq_true hs0
          have hd3 : decide ((s - 1) * u.sp ≥ 10 * m) = false := decide_eq_false (by omega)
          clear u3
          go_wp2_with fail
          refine (draw_text _ n c _ (HRW.out.below HB9.out HB9.out.size)).mono ?_
          rintro e w10 ⟨z, rfl, hnz, hb⟩
          have HB10 := Lib.hid (bthen HB9.out hb HB9.out.size)
          have hzz : z.nm.size ≤ maxLen := by unfold maxLen; omega
          obtain ⟨W10, hW⟩ : ∃ W, W = w10.alloc (.cells #[.int .i64 z.id, .string z.nm, .int .i64 z.dr, .int .i64 z.ah, .int .i64 z.be, .int .i64 z.sp, .int .i64 z.fu] 25) := ⟨_, rfl⟩
          have HXz_10 : Hid (Has W10 w10.heap.size [.int .i64 z.id, .string z.nm, .int .i64 z.dr, .int .i64 z.ah, .int .i64 z.be, .int .i64 z.sp, .int .i64 z.fu]) := by rw [hW]; exact Lib.hid (by simpa using Has.new w10 #[.int .i64 z.id, .string z.nm, .int .i64 z.dr, .int .i64 z.ah, .int .i64 z.be, .int .i64 z.sp, .int .i64 z.fu] 25)
          have HBa10 : Hid (Below w.heap.size w W10) := by rw [hW]; exact Lib.hid (HB10.out.alloc HB10.out.size _)
          have HE10 := Lib.hid hW
          clear hW hb
          go_upto_region 25 with fail
          rw [← HE10.out]
          obtain ⟨T, hT⟩ : ∃ T, ctT z = T := ⟨_, rfl⟩
          obtain ⟨K9, hK9⟩ : ∃ K, craftB z = K := ⟨_, rfl⟩
          have HT9 := Lib.hid hT
          have HK9 := Lib.hid hK9
          clear hT hK9
          have a0 := HXz_10.out.at_ 0 _ rfl
          have a1 := HXz_10.out.at_ 1 _ rfl
          have a2 := HXz_10.out.at_ 2 _ rfl
          have a3 := HXz_10.out.at_ 3 _ rfl
          have a4 := HXz_10.out.at_ 4 _ rfl
          have a5 := HXz_10.out.at_ 5 _ rfl
          have a6 := HXz_10.out.at_ 6 _ rfl
          go_wp2_with fail
          refine (textI_v z T K9 HT9.out HK9.out _ hzz (tabIs_below HT0.out HBa10.out)).mono ?_
          rintro e w11 ⟨rfl, hb⟩
          have HB11 := Lib.hid (bthen HBa10.out hb HBa10.out.size)
          have HXz_11 := Lib.hid (HXz_10.out.next hb)
          clear hb
          clear a0 a1 a2 a3 a4 a5 a6
          have a0 := HXz_11.out.at_ 0 _ rfl
          have a1 := HXz_11.out.at_ 1 _ rfl
          have a2 := HXz_11.out.at_ 2 _ rfl
          have a3 := HXz_11.out.at_ 3 _ rfl
          have a4 := HXz_11.out.at_ 4 _ rfl
          have a5 := HXz_11.out.at_ 5 _ rfl
          have a6 := HXz_11.out.at_ 6 _ rfl
          go_wp2_with fail
          refine (textS_v z T K9 HT9.out HK9.out _ hzz).mono ?_
          rintro e w12 ⟨rfl, hb⟩
          have HB12 := Lib.hid (bthen HB11.out hb HB11.out.size)
          have HXz_12 := Lib.hid (HXz_11.out.next hb)
          clear hb
          clear a0 a1 a2 a3 a4 a5 a6
          have a0 := HXz_12.out.at_ 0 _ rfl
          have a1 := HXz_12.out.at_ 1 _ rfl
          have a2 := HXz_12.out.at_ 2 _ rfl
          have a3 := HXz_12.out.at_ 3 _ rfl
          have a4 := HXz_12.out.at_ 4 _ rfl
          have a5 := HXz_12.out.at_ 5 _ rfl
          have a6 := HXz_12.out.at_ 6 _ rfl
          go_wp2_with fail
          refine (isCraft_v z K9 HK9.out _ hzz).mono ?_
          rintro e w13 ⟨rfl, hb⟩
          have HB13 := Lib.hid (bthen HB12.out hb HB12.out.size)
          clear hb
          clear a0 a1 a2 a3 a4 a5 a6
          go_wp2_with fail
          go_ret
          exact ⟨ret_bool (by first | rfl | simp), HB13.out⟩
        · have hd2 : decide (s > 0) = false := decide_eq_false hs0
          clear u3
          go_wp2_with fail
          refine (draw_text _ n c _ (HRW.out.below HB9.out HB9.out.size)).mono ?_
          rintro e w10 ⟨z, rfl, hnz, hb⟩
          have HB10 := Lib.hid (bthen HB9.out hb HB9.out.size)
          have hzz : z.nm.size ≤ maxLen := by unfold maxLen; omega
          obtain ⟨W10, hW⟩ : ∃ W, W = w10.alloc (.cells #[.int .i64 z.id, .string z.nm, .int .i64 z.dr, .int .i64 z.ah, .int .i64 z.be, .int .i64 z.sp, .int .i64 z.fu] 25) := ⟨_, rfl⟩
          have HXz_10 : Hid (Has W10 w10.heap.size [.int .i64 z.id, .string z.nm, .int .i64 z.dr, .int .i64 z.ah, .int .i64 z.be, .int .i64 z.sp, .int .i64 z.fu]) := by rw [hW]; exact Lib.hid (by simpa using Has.new w10 #[.int .i64 z.id, .string z.nm, .int .i64 z.dr, .int .i64 z.ah, .int .i64 z.be, .int .i64 z.sp, .int .i64 z.fu] 25)
          have HBa10 : Hid (Below w.heap.size w W10) := by rw [hW]; exact Lib.hid (HB10.out.alloc HB10.out.size _)
          have HE10 := Lib.hid hW
          clear hW hb
          go_upto_region 25 with fail
          rw [← HE10.out]
          obtain ⟨T, hT⟩ : ∃ T, ctT z = T := ⟨_, rfl⟩
          obtain ⟨K9, hK9⟩ : ∃ K, craftB z = K := ⟨_, rfl⟩
          have HT9 := Lib.hid hT
          have HK9 := Lib.hid hK9
          clear hT hK9
          have a0 := HXz_10.out.at_ 0 _ rfl
          have a1 := HXz_10.out.at_ 1 _ rfl
          have a2 := HXz_10.out.at_ 2 _ rfl
          have a3 := HXz_10.out.at_ 3 _ rfl
          have a4 := HXz_10.out.at_ 4 _ rfl
          have a5 := HXz_10.out.at_ 5 _ rfl
          have a6 := HXz_10.out.at_ 6 _ rfl
          go_wp2_with fail
          refine (textI_v z T K9 HT9.out HK9.out _ hzz (tabIs_below HT0.out HBa10.out)).mono ?_
          rintro e w11 ⟨rfl, hb⟩
          have HB11 := Lib.hid (bthen HBa10.out hb HBa10.out.size)
          have HXz_11 := Lib.hid (HXz_10.out.next hb)
          clear hb
          clear a0 a1 a2 a3 a4 a5 a6
          have a0 := HXz_11.out.at_ 0 _ rfl
          have a1 := HXz_11.out.at_ 1 _ rfl
          have a2 := HXz_11.out.at_ 2 _ rfl
          have a3 := HXz_11.out.at_ 3 _ rfl
          have a4 := HXz_11.out.at_ 4 _ rfl
          have a5 := HXz_11.out.at_ 5 _ rfl
          have a6 := HXz_11.out.at_ 6 _ rfl
          go_wp2_with fail
          refine (textS_v z T K9 HT9.out HK9.out _ hzz).mono ?_
          rintro e w12 ⟨rfl, hb⟩
          have HB12 := Lib.hid (bthen HB11.out hb HB11.out.size)
          have HXz_12 := Lib.hid (HXz_11.out.next hb)
          clear hb
          clear a0 a1 a2 a3 a4 a5 a6
          have a0 := HXz_12.out.at_ 0 _ rfl
          have a1 := HXz_12.out.at_ 1 _ rfl
          have a2 := HXz_12.out.at_ 2 _ rfl
          have a3 := HXz_12.out.at_ 3 _ rfl
          have a4 := HXz_12.out.at_ 4 _ rfl
          have a5 := HXz_12.out.at_ 5 _ rfl
          have a6 := HXz_12.out.at_ 6 _ rfl
          go_wp2_with fail
          refine (isCraft_v z K9 HK9.out _ hzz).mono ?_
          rintro e w13 ⟨rfl, hb⟩
          have HB13 := Lib.hid (bthen HB12.out hb HB12.out.size)
          clear hb
          clear a0 a1 a2 a3 a4 a5 a6
          go_wp2_with fail
          go_ret
          exact ⟨ret_bool (by first | rfl | simp), HB13.out⟩
    · obtain ⟨rfl, rfl⟩ := back HR2.out HR3.out
      clear HR1 HR2 HR3
      go_wp2_with fail
      refine (draw_secs _ n c _ (HRW.out.below HB6.out HB6.out.size)).mono ?_
      rintro e w7 ⟨u, m, rfl, hnu, hb⟩
      have HB7 := Lib.hid (bthen HB6.out hb HB6.out.size)
      have hzu : u.nm.size ≤ maxLen := by unfold maxLen; omega
      obtain ⟨W7, hW⟩ : ∃ W, W = w7.alloc (.cells #[.int .i64 u.id, .string u.nm, .int .i64 u.dr, .int .i64 u.ah, .int .i64 u.be, .int .i64 u.sp, .int .i64 u.fu] 25) := ⟨_, rfl⟩
      have HXu_7 : Hid (Has W7 w7.heap.size [.int .i64 u.id, .string u.nm, .int .i64 u.dr, .int .i64 u.ah, .int .i64 u.be, .int .i64 u.sp, .int .i64 u.fu]) := by rw [hW]; exact Lib.hid (by simpa using Has.new w7 #[.int .i64 u.id, .string u.nm, .int .i64 u.dr, .int .i64 u.ah, .int .i64 u.be, .int .i64 u.sp, .int .i64 u.fu] 25)
      have HBa7 : Hid (Below w.heap.size w W7) := by rw [hW]; exact Lib.hid (HB7.out.alloc HB7.out.size _)
      have HE7 := Lib.hid hW
      clear hW hb
      go_upto_region 18 with fail
      rw [← HE7.out]
      obtain ⟨s, hs⟩ : ∃ s, secV u m = s := ⟨_, rfl⟩
      obtain ⟨K8, hK8⟩ : ∃ K, secK u m = K := ⟨_, rfl⟩
      have HS8 := Lib.hid hs
      have HK8 := Lib.hid hK8
      clear hs hK8
      have a0 := HXu_7.out.at_ 0 _ rfl
      have a1 := HXu_7.out.at_ 1 _ rfl
      have a2 := HXu_7.out.at_ 2 _ rfl
      have a3 := HXu_7.out.at_ 3 _ rfl
      have a4 := HXu_7.out.at_ 4 _ rfl
      have a5 := HXu_7.out.at_ 5 _ rfl
      have a6 := HXu_7.out.at_ 6 _ rfl
      go_wp2_with fail
      refine (secs_v u m s K8 HS8.out HK8.out _ hzu).mono ?_
      rintro e w8 ⟨rfl, hb⟩
      have HB8 := Lib.hid (bthen HBa7.out hb HBa7.out.size)
      have HXu_8 := Lib.hid (HXu_7.out.next hb)
      clear hb
      clear a0 a1 a2 a3 a4 a5 a6
      have a0 := HXu_8.out.at_ 0 _ rfl
      have a1 := HXu_8.out.at_ 1 _ rfl
      have a2 := HXu_8.out.at_ 2 _ rfl
      have a3 := HXu_8.out.at_ 3 _ rfl
      have a4 := HXu_8.out.at_ 4 _ rfl
      have a5 := HXu_8.out.at_ 5 _ rfl
      have a6 := HXu_8.out.at_ 6 _ rfl
      go_wp2_with fail
      refine (secS_v u m s K8 HS8.out HK8.out _ hzu).mono ?_
      rintro e w9 ⟨rfl, hb⟩
      have HB9 := Lib.hid (bthen HB8.out hb HB8.out.size)
      have HXu_9 := Lib.hid (HXu_8.out.next hb)
      clear hb
      clear a0 a1 a2 a3 a4 a5 a6
      have a0 := HXu_9.out.at_ 0 _ rfl
      have a1 := HXu_9.out.at_ 1 _ rfl
      have a2 := HXu_9.out.at_ 2 _ rfl
      have a3 := HXu_9.out.at_ 3 _ rfl
      have a4 := HXu_9.out.at_ 4 _ rfl
      have a5 := HXu_9.out.at_ 5 _ rfl
      have a6 := HXu_9.out.at_ 6 _ rfl
      rcases K8 with _ | _
      · clear HS8
        go_wp2_with fail
        refine (draw_text _ n c _ (HRW.out.below HB9.out HB9.out.size)).mono ?_
        rintro e w10 ⟨z, rfl, hnz, hb⟩
        have HB10 := Lib.hid (bthen HB9.out hb HB9.out.size)
        have hzz : z.nm.size ≤ maxLen := by unfold maxLen; omega
        obtain ⟨W10, hW⟩ : ∃ W, W = w10.alloc (.cells #[.int .i64 z.id, .string z.nm, .int .i64 z.dr, .int .i64 z.ah, .int .i64 z.be, .int .i64 z.sp, .int .i64 z.fu] 25) := ⟨_, rfl⟩
        have HXz_10 : Hid (Has W10 w10.heap.size [.int .i64 z.id, .string z.nm, .int .i64 z.dr, .int .i64 z.ah, .int .i64 z.be, .int .i64 z.sp, .int .i64 z.fu]) := by rw [hW]; exact Lib.hid (by simpa using Has.new w10 #[.int .i64 z.id, .string z.nm, .int .i64 z.dr, .int .i64 z.ah, .int .i64 z.be, .int .i64 z.sp, .int .i64 z.fu] 25)
        have HBa10 : Hid (Below w.heap.size w W10) := by rw [hW]; exact Lib.hid (HB10.out.alloc HB10.out.size _)
        have HE10 := Lib.hid hW
        clear hW hb
        go_upto_region 25 with fail
        rw [← HE10.out]
        obtain ⟨T, hT⟩ : ∃ T, ctT z = T := ⟨_, rfl⟩
        obtain ⟨K9, hK9⟩ : ∃ K, craftB z = K := ⟨_, rfl⟩
        have HT9 := Lib.hid hT
        have HK9 := Lib.hid hK9
        clear hT hK9
        have a0 := HXz_10.out.at_ 0 _ rfl
        have a1 := HXz_10.out.at_ 1 _ rfl
        have a2 := HXz_10.out.at_ 2 _ rfl
        have a3 := HXz_10.out.at_ 3 _ rfl
        have a4 := HXz_10.out.at_ 4 _ rfl
        have a5 := HXz_10.out.at_ 5 _ rfl
        have a6 := HXz_10.out.at_ 6 _ rfl
        go_wp2_with fail
        refine (textI_v z T K9 HT9.out HK9.out _ hzz (tabIs_below HT0.out HBa10.out)).mono ?_
        rintro e w11 ⟨rfl, hb⟩
        have HB11 := Lib.hid (bthen HBa10.out hb HBa10.out.size)
        have HXz_11 := Lib.hid (HXz_10.out.next hb)
        clear hb
        clear a0 a1 a2 a3 a4 a5 a6
        have a0 := HXz_11.out.at_ 0 _ rfl
        have a1 := HXz_11.out.at_ 1 _ rfl
        have a2 := HXz_11.out.at_ 2 _ rfl
        have a3 := HXz_11.out.at_ 3 _ rfl
        have a4 := HXz_11.out.at_ 4 _ rfl
        have a5 := HXz_11.out.at_ 5 _ rfl
        have a6 := HXz_11.out.at_ 6 _ rfl
        go_wp2_with fail
        refine (textS_v z T K9 HT9.out HK9.out _ hzz).mono ?_
        rintro e w12 ⟨rfl, hb⟩
        have HB12 := Lib.hid (bthen HB11.out hb HB11.out.size)
        have HXz_12 := Lib.hid (HXz_11.out.next hb)
        clear hb
        clear a0 a1 a2 a3 a4 a5 a6
        have a0 := HXz_12.out.at_ 0 _ rfl
        have a1 := HXz_12.out.at_ 1 _ rfl
        have a2 := HXz_12.out.at_ 2 _ rfl
        have a3 := HXz_12.out.at_ 3 _ rfl
        have a4 := HXz_12.out.at_ 4 _ rfl
        have a5 := HXz_12.out.at_ 5 _ rfl
        have a6 := HXz_12.out.at_ 6 _ rfl
        go_wp2_with fail
        refine (isCraft_v z K9 HK9.out _ hzz).mono ?_
        rintro e w13 ⟨rfl, hb⟩
        have HB13 := Lib.hid (bthen HB12.out hb HB12.out.size)
        clear hb
        clear a0 a1 a2 a3 a4 a5 a6
        go_wp2_with fail
        go_ret
        exact ⟨ret_bool (by first | rfl | simp), HB13.out⟩
      · obtain ⟨⟨p1, p2⟩, ⟨m1, m2⟩, ⟨s1, s2⟩, u1, u2, u3, u4⟩ := sec_up HK8.out HS8.out
        have hd1 : decide (s * u.sp < 10 * m) = false := decide_eq_false (by omega)
        by_cases hs0 : 0 < s
        · have u5 := u3 hs0
          have u6 : (s - 1) * u.sp = s * u.sp - u.sp := by rw [Int.sub_mul, Int.one_mul]
          have hd2 : decide (s > 0) = true := decide_eq_true hs0
          have hd3 : decide ((s - 1) * u.sp ≥ 10 * m) = false := decide_eq_false (by omega)
          clear u3
          go_wp2_with fail
          refine (draw_text _ n c _ (HRW.out.below HB9.out HB9.out.size)).mono ?_
          rintro e w10 ⟨z, rfl, hnz, hb⟩
          have HB10 := Lib.hid (bthen HB9.out hb HB9.out.size)
          have hzz : z.nm.size ≤ maxLen := by unfold maxLen; omega
          obtain ⟨W10, hW⟩ : ∃ W, W = w10.alloc (.cells #[.int .i64 z.id, .string z.nm, .int .i64 z.dr, .int .i64 z.ah, .int .i64 z.be, .int .i64 z.sp, .int .i64 z.fu] 25) := ⟨_, rfl⟩
          have HXz_10 : Hid (Has W10 w10.heap.size [.int .i64 z.id, .string z.nm, .int .i64 z.dr, .int .i64 z.ah, .int .i64 z.be, .int .i64 z.sp, .int .i64 z.fu]) := by rw [hW]; exact Lib.hid (by simpa using Has.new w10 #[.int .i64 z.id, .string z.nm, .int .i64 z.dr, .int .i64 z.ah, .int .i64 z.be, .int .i64 z.sp, .int .i64 z.fu] 25)
          have HBa10 : Hid (Below w.heap.size w W10) := by rw [hW]; exact Lib.hid (HB10.out.alloc HB10.out.size _)
          have HE10 := Lib.hid hW
          clear hW hb
          go_upto_region 25 with fail
          rw [← HE10.out]
          obtain ⟨T, hT⟩ : ∃ T, ctT z = T := ⟨_, rfl⟩
          obtain ⟨K9, hK9⟩ : ∃ K, craftB z = K := ⟨_, rfl⟩
          have HT9 := Lib.hid hT
          have HK9 := Lib.hid hK9
          clear hT hK9
          have a0 := HXz_10.out.at_ 0 _ rfl
          have a1 := HXz_10.out.at_ 1 _ rfl
          have a2 := HXz_10.out.at_ 2 _ rfl
          have a3 := HXz_10.out.at_ 3 _ rfl
          have a4 := HXz_10.out.at_ 4 _ rfl
          have a5 := HXz_10.out.at_ 5 _ rfl
          have a6 := HXz_10.out.at_ 6 _ rfl
          go_wp2_with fail
          refine (textI_v z T K9 HT9.out HK9.out _ hzz (tabIs_below HT0.out HBa10.out)).mono ?_
          rintro e w11 ⟨rfl, hb⟩
          have HB11 := Lib.hid (bthen HBa10.out hb HBa10.out.size)
          have HXz_11 := Lib.hid (HXz_10.out.next hb)
          clear hb
          clear a0 a1 a2 a3 a4 a5 a6
          have a0 := HXz_11.out.at_ 0 _ rfl
          have a1 := HXz_11.out.at_ 1 _ rfl
          have a2 := HXz_11.out.at_ 2 _ rfl
          have a3 := HXz_11.out.at_ 3 _ rfl
          have a4 := HXz_11.out.at_ 4 _ rfl
          have a5 := HXz_11.out.at_ 5 _ rfl
          have a6 := HXz_11.out.at_ 6 _ rfl
          go_wp2_with fail
          refine (textS_v z T K9 HT9.out HK9.out _ hzz).mono ?_
          rintro e w12 ⟨rfl, hb⟩
          have HB12 := Lib.hid (bthen HB11.out hb HB11.out.size)
          have HXz_12 := Lib.hid (HXz_11.out.next hb)
          clear hb
          clear a0 a1 a2 a3 a4 a5 a6
          have a0 := HXz_12.out.at_ 0 _ rfl
          have a1 := HXz_12.out.at_ 1 _ rfl
          have a2 := HXz_12.out.at_ 2 _ rfl
          have a3 := HXz_12.out.at_ 3 _ rfl
          have a4 := HXz_12.out.at_ 4 _ rfl
          have a5 := HXz_12.out.at_ 5 _ rfl
          have a6 := HXz_12.out.at_ 6 _ rfl
          go_wp2_with fail
          refine (isCraft_v z K9 HK9.out _ hzz).mono ?_
          rintro e w13 ⟨rfl, hb⟩
          have HB13 := Lib.hid (bthen HB12.out hb HB12.out.size)
          clear hb
          clear a0 a1 a2 a3 a4 a5 a6
          go_wp2_with fail
          go_ret
          exact ⟨ret_bool (by first | rfl | simp), HB13.out⟩
        · have hd2 : decide (s > 0) = false := decide_eq_false hs0
          clear u3
          go_wp2_with fail
          refine (draw_text _ n c _ (HRW.out.below HB9.out HB9.out.size)).mono ?_
          rintro e w10 ⟨z, rfl, hnz, hb⟩
          have HB10 := Lib.hid (bthen HB9.out hb HB9.out.size)
          have hzz : z.nm.size ≤ maxLen := by unfold maxLen; omega
          obtain ⟨W10, hW⟩ : ∃ W, W = w10.alloc (.cells #[.int .i64 z.id, .string z.nm, .int .i64 z.dr, .int .i64 z.ah, .int .i64 z.be, .int .i64 z.sp, .int .i64 z.fu] 25) := ⟨_, rfl⟩
          have HXz_10 : Hid (Has W10 w10.heap.size [.int .i64 z.id, .string z.nm, .int .i64 z.dr, .int .i64 z.ah, .int .i64 z.be, .int .i64 z.sp, .int .i64 z.fu]) := by rw [hW]; exact Lib.hid (by simpa using Has.new w10 #[.int .i64 z.id, .string z.nm, .int .i64 z.dr, .int .i64 z.ah, .int .i64 z.be, .int .i64 z.sp, .int .i64 z.fu] 25)
          have HBa10 : Hid (Below w.heap.size w W10) := by rw [hW]; exact Lib.hid (HB10.out.alloc HB10.out.size _)
          have HE10 := Lib.hid hW
          clear hW hb
          go_upto_region 25 with fail
          rw [← HE10.out]
          obtain ⟨T, hT⟩ : ∃ T, ctT z = T := ⟨_, rfl⟩
          obtain ⟨K9, hK9⟩ : ∃ K, craftB z = K := ⟨_, rfl⟩
          have HT9 := Lib.hid hT
          have HK9 := Lib.hid hK9
          clear hT hK9
          have a0 := HXz_10.out.at_ 0 _ rfl
          have a1 := HXz_10.out.at_ 1 _ rfl
          have a2 := HXz_10.out.at_ 2 _ rfl
          have a3 := HXz_10.out.at_ 3 _ rfl
          have a4 := HXz_10.out.at_ 4 _ rfl
          have a5 := HXz_10.out.at_ 5 _ rfl
          have a6 := HXz_10.out.at_ 6 _ rfl
          go_wp2_with fail
          refine (textI_v z T K9 HT9.out HK9.out _ hzz (tabIs_below HT0.out HBa10.out)).mono ?_
          rintro e w11 ⟨rfl, hb⟩
          have HB11 := Lib.hid (bthen HBa10.out hb HBa10.out.size)
          have HXz_11 := Lib.hid (HXz_10.out.next hb)
          clear hb
          clear a0 a1 a2 a3 a4 a5 a6
          have a0 := HXz_11.out.at_ 0 _ rfl
          have a1 := HXz_11.out.at_ 1 _ rfl
          have a2 := HXz_11.out.at_ 2 _ rfl
          have a3 := HXz_11.out.at_ 3 _ rfl
          have a4 := HXz_11.out.at_ 4 _ rfl
          have a5 := HXz_11.out.at_ 5 _ rfl
          have a6 := HXz_11.out.at_ 6 _ rfl
          go_wp2_with fail
          refine (textS_v z T K9 HT9.out HK9.out _ hzz).mono ?_
          rintro e w12 ⟨rfl, hb⟩
          have HB12 := Lib.hid (bthen HB11.out hb HB11.out.size)
          have HXz_12 := Lib.hid (HXz_11.out.next hb)
          clear hb
          clear a0 a1 a2 a3 a4 a5 a6
          have a0 := HXz_12.out.at_ 0 _ rfl
          have a1 := HXz_12.out.at_ 1 _ rfl
          have a2 := HXz_12.out.at_ 2 _ rfl
          have a3 := HXz_12.out.at_ 3 _ rfl
          have a4 := HXz_12.out.at_ 4 _ rfl
          have a5 := HXz_12.out.at_ 5 _ rfl
          have a6 := HXz_12.out.at_ 6 _ rfl
          go_wp2_with fail
          refine (isCraft_v z K9 HK9.out _ hzz).mono ?_
          rintro e w13 ⟨rfl, hb⟩
          have HB13 := Lib.hid (bthen HB12.out hb HB12.out.size)
          clear hb
          clear a0 a1 a2 a3 a4 a5 a6
          go_wp2_with fail
          go_ret
          exact ⟨ret_bool (by first | rfl | simp), HB13.out⟩

/-! ### The row's step. -/
/-- The heap that the initialisers leave meets the condition. -/
theorem door_met (os : Os) (args : Array Value) : laidMetH Tryd.prog laid ((World.doorLaid Tryd.prog 65 os).forCall (fun _ _ => 0) ⟨#[], args, []⟩).memory :=
  laidMetH_of_parts3 (fuel := 8) (laidMet_of_run' 8 (by kernel_rfl) (by kernel_rfl)) (by kernel_rfl) (by kernel_rfl)

set_option maxRecDepth 100000 in
theorem lifted (os : Os) (started : os.Started) (H : Type) (enc : TypeId × Value → H) :
    ReturnsInHanded {} Tryd.checked os 3 .any (fun w args => (Rows.fnOffsetsSpec.pre enc Tryd.prog Tryd.f3 [] false w args ∧ laidMetH Tryd.prog laid w) ∧ sizedMet enc Tryd.prog Tryd.f3 (OpenSpec.ofChange Rows.fnOffsetsSpec) false w args)
      (Rows.fnOffsetsSpec.post enc Tryd.prog Tryd.f3 false true false false) := by
  refine returnsInHanded_of_change_and (C := Tryd.checked) (X := fun w _ => laidMetH Tryd.prog laid w) (fun _ _ _ hh h => h.of_heap hh) ownK started (by kernel_rfl) Tryd.func3
    (ChangeSpec.witness_shaped (enc := enc) (C := Tryd.checked) (os := os) (X := fun w _ => laidMetH Tryd.prog laid w) false (World.doorLaid Tryd.prog 65 os) #[.slice none 0 0] 8 rfl (World.shaped_of_RefB (by kernel_rfl) (by kernel_rfl)) (by kernel_rfl) (by kernel_rfl) (by kernel_rfl) (door_met os _)) ?_
  intro W base args ds gs before hval0 hW _ _ hLH _
  have hval : ∀ (j : Nat) t v, Tryd.f3.params[j]? = some t → args[j]? = some v → Value.okWide Tryd.prog W .any base t v := hval0
  have hW' := hW
  obtain ⟨p, q, hA0, hV, rfl, hfz, hnd⟩ := hW
  have hA : DataW.TrodAll enc Tryd.prog W 0 (fun _ => true) true Tryd.f3.params.toList args.toList ds p := hA0
  rw [Tryd.params3] at hA hval
  obtain ⟨v0, vs0, d0, ds0, p0, q0, hargs, rfl, rfl, h0, r0⟩ := trodAll_cons hA
  obtain ⟨rfl, rfl, rfl⟩ := trodAll_nil r0
  obtain rfl : args = #[v0] := by cases args; simp_all
  obtain ⟨rfl, rfl⟩ := trodVars_none hV
  have k0 := h0
  have lt0 : ∀ x ∈ p0, x.block < W.heap.size := by obtain ⟨m, hm⟩ := k0; exact DataW.trod_lt m _ _ _ hm
  obtain ⟨A0, n0, c0, rfl⟩ := okWide_slice Tryd.underlying22 (hval 0 22 v0 rfl rfl)
  obtain ⟨m0, w0⟩ := open_code h0
  clear hA0 hval0
  have hL : laidMet Tryd.prog laid W := by
    rw [MakeChecks.laidMetH_plain _ _ _ (by kernel_rfl)] at hLH
    exact hLH
  refine (walk A0 n0 c0 W m0 w0 hL).mono fun e W1 ⟨he, bel⟩ => ?_
  subst he
  exact ⟨_, rfl, _, _, _, [], _, [], hW', trodAll_mk1 (shut_bool Tryd.underlying4 _), (trodAll_cons_mk (Below.trod laidOut (by kernel_rfl) (of_decide_eq_true (by kernel_rfl)) k0 bel lt0) trodAll_mk0), rfl, bel.frame _, fun h => by cases h⟩

theorem over : Rows.FnOffsetsSaid :=
  OpenClaim.holds_of_wide 3 Tryd.f3 rfl rfl rfl rfl rfl rfl rfl ⟨rfl, rfl, rfl, rfl, rfl⟩ rfl rfl rfl rfl rfl (by kernel_rfl) Tryd.func3 (by kernel_rfl)
    (of_decide_eq_true (by kernel_rfl)) (by unfold Func.isWrapper; first | (rw [if_pos (by decide +kernel)]; kernel_rfl) | (rw [if_neg (by decide +kernel)]; exact ⟨rfl, rfl⟩))
    (fun os started H enc _ => lifted os started H enc)

/-- The statement: the tied card. -/
theorem proved : Rows.FnOffsetsCardSaid :=
  Claim7.holds_tied_plain_at .later [] [.data, .data, .data] true (true, "7ad22f4a05dbe92afea6b7e73491ae4349577ec302aa817f924871d733a9e41e") false
    over (fun _ h => by cases h) (by kernel_rfl) (fun _ h => by cases h) fnOffsets_row_tie rfl ⟨rfl, rfl⟩ (by kernel_rfl) rfl
    (fun f fn hf hfn => by
      obtain rfl : f = 3 := Option.some.inj ((show Tryd.prog.funcNamed "loop.example/g01031/laws.FnOffsets" = some 3 by kernel_rfl).symm.trans hf) |>.symm
      obtain rfl : fn = Tryd.f3 := (Option.some.inj (Tryd.func3.symm.trans hfn)).symm
      exact ⟨by kernel_rfl, fun j t ht => by
        rw [Tryd.params3] at ht
        have hm : t ∈ [22] := by simpa using Array.mem_of_getElem? ht
        have hall : ([22].all fun u => !Tryd.prog.wantsStandIn u) = true := by kernel_rfl
        exact (show Tryd.prog.wantsStandIn t = false by simpa using List.all_eq_true.1 hall t hm)⟩)
    (by kernel_rfl)
#print axioms proved
end Go.Proofs.YtfffahkommbheaaDoor.fnOffsets
