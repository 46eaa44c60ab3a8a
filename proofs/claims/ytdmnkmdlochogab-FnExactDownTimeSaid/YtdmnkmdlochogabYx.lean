/-
  Sums over layers: contracts of spec.l6Part, spec.l6Sum, spec.l6Time over this translation. Conditions: stated at each theorem.
-/
import Derived.Test.YtdmnkmdlochogabYt
import Derived.Test.YtdmnkmdlochogabYg
namespace Go.Proofs.Ytdmnkmdlochogab
open Go.RowKit
set_option linter.unusedVariables false

theorem Spots.take {w : World} {B n : Nat} {A : Option Addr} {l : List (Int × Int)} (h : Spots w B A n l) (k : Nat) (hk : k ≤ n) : Spots w B A k (l.take k) := by
  refine ⟨by rw [List.length_take, h.1]; omega, fun j hj => ?_⟩
  obtain ⟨b, o, x, y, hA, hlt, hl, h0, h1⟩ := h.2 j (by omega)
  exact ⟨b, o, x, y, hA, hlt, by rw [List.getElem?_take_of_lt hj]; exact hl, h0, h1⟩
set_option maxRecDepth 20000 in
set_option maxHeartbeats 1600000 in
theorem part_spec (A : Option Addr) (c : Nat) (l : List (Int × Int)) (k : Nat) (x y d v : Int) (hk : l[k]? = some (x, y)) (h : prt x (thk (l.take k)) d = v) (w : World) (hs : Spots w w.heap.size A l.length l) (hg : Good l) (h6 : l.length ≤ 5) (hc : l.length ≤ c) (hcm : c ≤ maxLen) (h0 : 0 ≤ d) (h1 : d ≤ 100000) :
    Calls Try.prog 119 #[.slice A l.length c, .int .i64 k, .int .i64 d] w fun e w' => e = .returned (.int .i64 v) ∧ Below w.heap.size w w' := by
  have hx := hg.at_ hk
  obtain ⟨hx, hy⟩ := hx
  have hlt := (List.getElem?_eq_some_iff.1 hk).1
  obtain ⟨b, o, x', y', rfl, _, hl, c0, c1⟩ := hs.2 k hlt
  obtain ⟨rfl, rfl⟩ : x' = x ∧ y' = y := by
    have e := Option.some.inj (hl.symm.trans hk)
    exact ⟨congrArg Prod.fst e, congrArg Prod.snd e⟩
  have HT := Lib.hid (hs.take k (by omega))
  have htb := thk_bd (hg.take k)
  have htl : (l.take k).length ≤ 6 := by rw [List.length_take]; omega
  have HG := Lib.hid (And.intro (hg.take k) htl)
  obtain ⟨T, hT⟩ : ∃ T, thk (l.take k) = T := ⟨_, rfl⟩
  rw [hT] at htb h
  have htb1 : 0 ≤ T := by omega
  have htb2 : T ≤ 30000 := by omega
  have HTk := Lib.hid hT
  have HV : Hid (max 0 (min x' (d - T)) = v) := by unfold Hid; rw [← h]; rfl
  have hw1 : IntKind.i64.wrap (d - T) = d - T := IntWalk.i64_in _ (by omega)
  unfold maxLen at hcm
  clear hT htb htl h hs hg hk hl
  go_enter Try.func119, Try.ntmps119
  go_wp2_with fail
  have lc0 := lcell (c0)
  have lc1 := lcell (c1)
  refine region_later (W := w) (by kernel_rfl) (by kernel_rfl) (Below.refl _ _) ?_
  repeat (go_big_quiet_step (((first | (go_at_call 111; exact later_same (total_spec _ _ _ (l.take k) T HTk.out _ (spots_more HT.out (Later.below _)) HG.out.1 HG.out.2)) | (go_at_call 90; exact later_same (least_any _ _ _)) | (go_at_call 97; exact later_same (most_any _ _ _))))))
  refine wpQuiet_nil ?_
  intro W1 hW1
  have HL : Hid (Below w.heap.size w W1) := by obtain ⟨x, rfl⟩ := hW1; exact Lib.hid x.below
  clear hW1 lc0 lc1
  go_wp2_with fail
  go_ret
  exact ⟨ret_int HV.out, HL.out⟩
set_option maxRecDepth 20000 in
set_option maxHeartbeats 1600000 in
theorem sum_spec (A : Option Addr) (c : Nat) (l : List (Int × Int)) (d v : Int) (h : spr l d = v) (w : World) (hs : Spots w w.heap.size A l.length l) (hg : Good l) (h6 : l.length ≤ 5) (hc : l.length ≤ c) (hcm : c ≤ maxLen) (h0 : 0 ≤ d) (h1 : d ≤ 100000) :
    Calls Try.prog 113 #[.slice A l.length c, .int .i64 d] w fun e w' => e = .returned (.int .i64 v) ∧ Below w.heap.size w w' := by
  subst h
  have HS := Lib.hid hs
  have HG := Lib.hid hg
  clear hs hg
  go_enter Try.func113, Try.ntmps113
  go_wp2
  go_loopw [5, 6] (fun s i wr => ∃ (k : Nat) (v : Int), k ≤ l.length ∧ i = .int .i64 k ∧ s = .int .i64 v ∧ 0 ≤ v ∧ v ≤ 8500000 * k ∧ Hid (spr (l.take k) d = v) ∧ Hid (Below w.heap.size w wr)) (fun _ i _ => l.length - (intOf i).toNat)
  case atStart => exact ⟨0, 0, Nat.zero_le _, rfl, rfl, by omega, by omega, rfl, Lib.hid (Below.refl _ _)⟩
  case round =>
    obtain ⟨k, v, hk, rfl, rfl, hv0, hv1, hA, hB⟩ := hrel
    obtain ⟨W0, rfl⟩ : ∃ W : World, W = wr := ⟨_, rfl⟩
    by_cases hlt : k < l.length
    · have HS1 := Lib.hid (spots_at HS.out hB.out)
      obtain ⟨b, o, x, y, rfl, hbl, hlk, c0, c1⟩ := HS1.out.2 k hlt
      have hx := HG.out.at_ hlk
      obtain ⟨hx, hy⟩ := hx
      obtain ⟨P, hP⟩ : ∃ P, prt x (thk (l.take k)) d = P := ⟨_, rfl⟩
      have hPb := prt_bd (x := x) (a := thk (l.take k)) (d := d) (by omega)
      rw [hP] at hPb
      obtain ⟨M, hM⟩ : ∃ M, P * y = M := ⟨_, rfl⟩
      have hMb := mulY_bd (a := P) (b := y) (m := 5000) (n := 1700) hPb.1 (by omega) (by omega) (by omega)
      rw [hM] at hMb
      obtain ⟨hMb1, hMb2⟩ := hMb
      have HV : Hid (spr (l.take (k + 1)) d = v + M) := by unfold Hid; rw [spr_take HG.out hlk h0, hA.out, hP, hM]
      have HP := Lib.hid hP
      have HK := Lib.hid hlk
      have hw1 : IntKind.i64.wrap (P * y) = M := by rw [hM]; exact IntWalk.i64_in _ (by omega)
      have hw2 : IntKind.i64.wrap (v + M) = v + M := IntWalk.i64_in _ (by omega)
      clear hP hlk hPb hM
      go_wp2_with fail
      have lc0 := lcell (c0)
      have lc1 := lcell (c1)
      refine region_later (W := W0) (by kernel_rfl) (by kernel_rfl) (Below.refl _ _) ?_
      repeat (go_big_quiet_step (((go_at_call 119; exact later_call (part_spec _ c l k x y d P HK.out HP.out _ (spots_more HS1.out (Later.below _)) HG.out h6 hc hcm h0 h1)))))
      refine wpQuiet_nil ?_
      intro W1 hW1
      have HL : Hid (Below W0.heap.size W0 W1) := by obtain ⟨x, rfl⟩ := hW1; exact Lib.hid x.below
      clear hW1 lc0 lc1
      have HB1 := Lib.hid (bthen hB.out HL.out hB.out.size)
      go_wp2_with fail
      go_roundw
      case rel => exact ⟨k + 1, v + M, by omega, by go_num, by go_num, by omega, by omega, HV, HB1⟩
      case measure => simp [intOf]; omega
    · have HR : Hid (spr l d = v) := by
        have h1 := hA.out
        obtain rfl : k = l.length := by omega
        rw [List.take_length] at h1
        exact h1
      go_wp2_with fail
      go_ret
      exact ⟨ret_int HR.out.symm, hB.out⟩
theorem tm_take_bd {l : List (Int × Int)} (h : Good l) {d : Int} (hd : 0 ≤ d) {k : Nat} (hk : k ≤ 4) {q : Rat} (hq : tmQ (l.take k) d = q) : (0 ≤ q.num ∧ q.num ≤ 195 * q.den) ∧ 0 < q.den ∧ q.den ≤ 8352100000000 := by
  subst hq
  have hg := h.take k
  have hl : (l.take k).length ≤ 4 := by rw [List.length_take]; omega
  have h1 := tmQ_bd hg hd
  have h2 := Nat.le_of_dvd (spd_bd hg).1 (tmQ_den hg d)
  have h3 := (spd_bd hg).2
  have h4 : 1700 ^ (l.take k).length ≤ 1700 ^ 4 := Nat.pow_le_pow_right (by omega) hl
  refine ⟨⟨Rat.num_nonneg.2 h1.1, ?_⟩, den_pos _, ?_⟩
  · have h5 := (le_num _ _).1 h1.2
    refine Int.le_trans h5 (Int.mul_le_mul_of_nonneg_right (by omega) (by omega))
  · have e : (1700 : Nat) ^ 4 = 8352100000000 := by decide
    omega
theorem rat_ret {q : Rat} {n : Int} {m : Nat} {w w' : World} (h : q.num = n ∧ q.den = m) (hb : Below w.heap.size w w') : RatPost q w (.returned (.tuple #[.int .i64 n, .int .i64 m])) w' := by
  obtain ⟨rfl, rfl⟩ := h
  exact ⟨rfl, hb⟩
theorem tm_next {q : Rat} {P : Int} {y : Nat} (hy : 0 < y) : mkRat (q.num * y + 10 * P * q.den) (q.den * y) = q + mkRat (10 * P) y := by
  conv => rhs; lhs; rw [← mk_self q]
  rw [mk_add _ _ (den_pos q) hy]
set_option maxRecDepth 20000 in
set_option maxHeartbeats 3200000 in
theorem timeS_spec (A : Option Addr) (c : Nat) (l : List (Int × Int)) (d : Int) (q : Rat) (h : tmQ l d = q) (w : World) (hs : Spots w w.heap.size A l.length l) (hg : Good l) (h6 : l.length ≤ 5) (hc : l.length ≤ c) (hcm : c ≤ maxLen) (h0 : 0 ≤ d) (h1 : d ≤ 100000) :
    Calls Try.prog 122 #[.slice A l.length c, .int .i64 d] w (RatPost q w) := by
  subst h
  have HS := Lib.hid hs
  have HG := Lib.hid hg
  clear hs hg
  go_enter Try.func122, Try.ntmps122
  go_wp2
  go_loopw [6, 7, 8] (fun a b i wr => ∃ (k : Nat) (n : Int) (m : Nat), k ≤ l.length ∧ i = .int .i64 k ∧ a = .int .i64 n ∧ b = .int .i64 m ∧ Hid (∃ q, tmQ (l.take k) d = q ∧ q.num = n ∧ q.den = m) ∧ Hid (Below w.heap.size w wr)) (fun _ _ i _ => l.length - (intOf i).toNat)
  case atStart => exact ⟨0, 0, 1, Nat.zero_le _, rfl, rfl, rfl, ⟨0, rfl, rfl, rfl⟩, Lib.hid (Below.refl _ _)⟩
  case round =>
    obtain ⟨k, n, m, hk, rfl, rfl, rfl, hA, hB⟩ := hrel
    obtain ⟨W0, rfl⟩ : ∃ W : World, W = wr := ⟨_, rfl⟩
    by_cases hlt : k < l.length
    · have HS1 := Lib.hid (spots_at HS.out hB.out)
      obtain ⟨b, o, x, y, rfl, hbl, hlk, c0, c1⟩ := HS1.out.2 k hlt
      have hx := HG.out.at_ hlk
      obtain ⟨hx, hy⟩ := hx
      obtain ⟨P, hP⟩ : ∃ P, prt x (thk (l.take k)) d = P := ⟨_, rfl⟩
      have hPb := prt_bd (x := x) (a := thk (l.take k)) (d := d) (by omega)
      rw [hP] at hPb
      obtain ⟨q, hq, hqn, hqm⟩ := hA.out
      have hqb := tm_take_bd HG.out h0 (by omega) hq
      rw [hqn, hqm] at hqb
      obtain ⟨ym, hym⟩ : ∃ ym : Nat, y = ym := ⟨y.toNat, by omega⟩
      subst hym
      have HQ : Hid (∃ q, tmQ (l.take (k + 1)) d = q ∧ mkRat (n * ym + 10 * P * m) (m * ym) = q) := by
        refine ⟨_, rfl, ?_⟩
        rw [← hqn, ← hqm, tm_next (by omega), tmQ_take HG.out hlk h0, hP, hq]; rfl
      obtain ⟨A1, hA1⟩ : ∃ A1, n * (ym : Int) = A1 := ⟨_, rfl⟩
      obtain ⟨A3, hA3⟩ : ∃ A3, 10 * P * (m : Int) = A3 := ⟨_, rfl⟩
      obtain ⟨D, hD⟩ : ∃ D, m * ym = D := ⟨_, rfl⟩
      have hA1b := mulY_bd (a := n) (b := ym) (m := 1628659500000000) (n := 1700) hqb.1.1 (by omega) (by omega) (by omega)
      have hA3b := mulY_bd (a := 10 * P) (b := m) (m := 50000) (n := 8352100000000) (by omega) (by omega) (by omega) (by omega)
      have hDb : m * ym ≤ 8352100000000 * 1700 := Nat.mul_le_mul (by omega) (by omega)
      have hDp : 0 < m * ym := Nat.mul_pos (by omega) (by omega)
      rw [hA1, hA3, hD] at HQ
      rw [hA1] at hA1b
      rw [hA3] at hA3b
      rw [hD] at hDb hDp
      obtain ⟨hA11, hA12⟩ := hA1b
      obtain ⟨hA31, hA32⟩ := hA3b
      have HP := Lib.hid hP
      have HK := Lib.hid hlk
      obtain ⟨hPb1, hPb2⟩ := hPb
      have hw1 : IntKind.i64.wrap (n * (ym : Int)) = A1 := by rw [hA1]; exact IntWalk.i64_in _ (by omega)
      have hw2 : IntKind.i64.wrap (10 * P) = 10 * P := IntWalk.i64_in _ (by omega)
      have hw3 : IntKind.i64.wrap (10 * P * (m : Int)) = A3 := by rw [hA3]; exact IntWalk.i64_in _ (by omega)
      have hw4 : IntKind.i64.wrap (A1 + A3) = A1 + A3 := IntWalk.i64_in _ (by omega)
      have hw5 : IntKind.i64.wrap ((m : Int) * (ym : Int)) = (D : Int) := by rw [← hD, Int.natCast_mul]; exact IntWalk.i64_in _ (by rw [← Int.natCast_mul, hD]; omega)
      obtain ⟨r, hr1, hr2⟩ := HQ.out
      have HR : Hid (∃ q, tmQ (l.take (k + 1)) d = q ∧ q.num = r.num ∧ q.den = r.den) := ⟨r, hr1, rfl, rfl⟩
      have HM := Lib.hid hr2
      clear hP hlk hA1 hA3 hD hq hqn hqm hqb hr1 hr2
      go_wp2_with fail
      have lc0 := lcell (c0)
      have lc1 := lcell (c1)
      refine region_later (W := W0) (by kernel_rfl) (by kernel_rfl) (Below.refl _ _) ?_
      repeat (go_big_quiet_step (((first | (go_at_call 119; exact later_call (part_spec _ c l k x ym d P HK.out HP.out _ (spots_more HS1.out (Later.below _)) HG.out h6 hc hcm h0 h1)) | (go_at_call 112; exact later_call (reduceQ_spec (A1 + A3) D r HM.out _ (by omega) (by omega) hDp (by omega)))))))
      refine wpQuiet_nil ?_
      intro W1 hW1
      have HL : Hid (Below W0.heap.size W0 W1) := by obtain ⟨x, rfl⟩ := hW1; exact Lib.hid x.below
      clear hW1 lc0 lc1
      have HB1 := Lib.hid (bthen hB.out HL.out hB.out.size)
      go_wp2_with fail
      go_roundw
      case rel => exact ⟨k + 1, r.num, r.den, by omega, by go_num, rfl, rfl, HR, HB1⟩
      case measure => simp [intOf]; omega
    · have HR : Hid ((tmQ l d).num = n ∧ (tmQ l d).den = m) := by
        obtain ⟨q, hq, h1, h2⟩ := hA.out
        obtain rfl : k = l.length := by omega
        rw [List.take_length] at hq
        rw [hq]; exact ⟨h1, h2⟩
      go_wp2_with fail
      go_ret2
      exact rat_ret HR.out hB.out
end Go.Proofs.Ytdmnkmdlochogab
