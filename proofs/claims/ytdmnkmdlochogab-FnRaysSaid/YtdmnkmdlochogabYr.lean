/-
  Contracts of laws.vBig, laws.vInts, laws.vStrata over this translation; plain facts for laws.FnRays, laws.FnDownTimes. Conditions: stated at each theorem.
-/
import Derived.Test.YtdmnkmdlochogabYn
import Derived.Test.YtdmnkmdlochogabYm
import Derived.Test.YtdmnkmdlochogabYq
import Derived.Test.YtdmnkmdlochogabYb
import Derived.Test.YtdmnkmdlochogabYz
namespace Go.Proofs.Ytdmnkmdlochogab
open Go.RowKit
set_option linter.unusedVariables false

theorem vBig_any (A : Option Addr) (n c : Nat) (v : Bool) (h : decide ((65536 : Int) < n) = v) (w : World) : Calls Try.prog 14 #[.slice A n c] w fun e w' => e = .returned (.bool v) ∧ w = w' := by
  subst h
  by_cases hc : (65536 : Int) < n
  · have H := Lib.hid (decide_eq_true hc)
    go_enter Try.func14, Try.ntmps14
    go_wp2_with fail
    go_ret
    exact ⟨ret_bool H.out.symm, rfl⟩
  · have H := Lib.hid (decide_eq_false hc)
    go_enter Try.func14, Try.ntmps14
    go_wp2_with fail
    go_ret
    exact ⟨ret_bool H.out.symm, rfl⟩
/-! ### laws.vInts -/
set_option maxHeartbeats 800000 in
theorem vI_same (A A' : Option Addr) (n c c' lo hi lo' hi' : Nat) (f : Nat → Int) (w : World) (h1 : IFun w lo hi A n f) (h2 : IFun w lo' hi' A' n f) (hm : n ≤ 1048576) :
    Calls Try.prog 23 #[.slice A n c, .slice A' n c'] w fun e w' => e = .returned (.bool true) ∧ ∃ k, w' = w.drewN k := by
  have H1 := Lib.hid h1
  have H2 := Lib.hid h2
  clear h1 h2
  go_enter Try.func23, Try.ntmps23
  go_wp2
  go_loopw [5] (fun i wr => ∃ k d : Nat, k ≤ n ∧ i = .int .i64 k ∧ wr = w.drewN d) (fun i _ => n - (intOf i).toNat)
  case atStart => exact ⟨0, 0, Nat.zero_le _, rfl, by rw [World.drewN_zero]⟩
  case round =>
    obtain ⟨k, d, hk, rfl, rfl⟩ := hrel
    by_cases hlt : k < n
    · obtain ⟨g, rfl, _, _, hc1, _⟩ := H1.out k hlt
      obtain ⟨g', rfl, _, _, hc2, _⟩ := H2.out k hlt
      go_wp2_with fail
      go_quiet (fail)
      go_wp2
      go_roundw
      case rel => exact ⟨k + 1, _, by omega, by go_num, rfl⟩
      case measure => simp [intOf]; omega
    · go_wp2
      go_ret
      exact ⟨rfl, _, rfl⟩
set_option maxHeartbeats 800000 in
theorem vY_same (A A' : Option Addr) (n c c' : Nat) (l : List (Int × Int)) (w : World) (h1 : Spots w w.heap.size A n l) (h2 : Spots w w.heap.size A' n l) (hm : n ≤ maxLen) :
    Calls Try.prog 47 #[.slice A n c, .slice A' n c'] w fun e w' => e = .returned (.bool true) ∧ Below w.heap.size w w' := by
  unfold maxLen at hm
  go_enter Try.func47, Try.ntmps47
  go_wp2
  go_loopw [5] (fun i wr => ∃ k : Nat, k ≤ n ∧ i = .int .i64 k ∧ Hid (Below w.heap.size w wr)) (fun i _ => n - (intOf i).toNat)
  case atStart => exact ⟨0, Nat.zero_le _, rfl, Lib.hid (Below.refl _ _)⟩
  case round =>
    obtain ⟨k, hk, rfl, hB⟩ := hrel
    by_cases hlt : k < n
    · obtain ⟨b1, o1, x, y, rfl, hb1, hl1, hc0, hc1⟩ := (h1.on hB.out (Nat.le_refl _)).2 k hlt
      obtain ⟨b2, o2, x2, y2, rfl, hb2, hl2, hd0, hd1⟩ := (h2.on hB.out (Nat.le_refl _)).2 k hlt
      have e : (x, y) = (x2, y2) := Option.some.inj (hl1.symm.trans hl2)
      obtain ⟨rfl, rfl⟩ := Prod.mk.inj e
      clear hl1 hl2 e
      go_wp2_with fail
      have lc0 := lcell (hc0)
      have lc1 := lcell (hc1)
      have lc2 := lcell (hd0)
      have lc3 := lcell (hd1)
      refine region_later (W := wr) (by kernel_rfl) (by kernel_rfl) (Below.refl _ _) ?_
      repeat (go_big_quiet_step (fail))
      refine wpQuiet_nil ?_
      intro W1 hW1
      have HL : Hid (Below wr.heap.size wr W1) := by obtain ⟨x, rfl⟩ := hW1; exact Lib.hid x.below
      clear hW1 lc0 lc1 lc2 lc3
      have HT := Lib.hid (bthen hB.out HL.out hB.out.size)
      go_wp2_with fail
      go_roundw
      case rel => exact ⟨k + 1, by omega, by go_num, HT⟩
      case measure => simp [intOf]; omega
    · go_wp2_with fail
      go_ret
      exact ⟨rfl, hB.out⟩

/-! ### Plain facts -/
theorem some_qK {o : Option Rat} (h : qK o = true) : ∃ r, o = some r := by
  cases o with
  | none => cases h
  | some r => exact ⟨r, rfl⟩
theorem none_qK {o : Option Rat} (h : qK o = false) : o = none := by
  cases o with
  | none => rfl
  | some r => cases h
theorem ss_parts {l : List (Int × Int)} {d : Int} (h : ssK l d = true) : strB l = true ∧ strB (spl l d) = true := by
  unfold ssK at h
  simp only [Bool.and_eq_true] at h
  exact ⟨h.1.1, h.2⟩
/-- Dividing a layer changes no run. -/
theorem ru_split {l : List (Int × Int)} {num den d : Int} {r : Rat} (h : ruO l num den d = some r) (hs : ssK l d = true) : ruO (ssR l d) num den d = some r := by
  have hp := ss_parts hs
  have hg := (str_parts hp.1).2
  unfold ssR
  rw [if_pos hs]
  unfold ruO at h ⊢
  split at h
  · rename_i hb
    rw [Bool.and_eq_true] at hb
    have hre := re_yes hb.1
    have h2 : reB (spl l d) d = true := by
      unfold reB
      rw [hp.2, spl_thk, inB_mk hre.2.1 hre.2.2]; rfl
    rw [if_pos (by rw [h2, hb.2]; rfl), spl_spr hg d hre.2.1, spl_head]
    exact h
  · cases h
theorem sf_parts {l : List (Int × Int)} {run : Int} {r : Rat} (h : sfO l run = some r) : strB l = true ∧ (0 ≤ run ∧ run ≤ 60000) ∧ mkRat (run * sp0 l) (spr l (thk l)).toNat = r := by
  unfold sfO at h
  split at h
  · rename_i hb
    rw [Bool.and_eq_true] at hb
    exact ⟨hb.1, inB_yes hb.2, Option.some.inj h⟩
  · cases h
theorem sp0_bd {l : List (Int × Int)} (h : strB l = true) : 1300 ≤ sp0 l ∧ sp0 l ≤ 1700 := by
  obtain ⟨hl, hg⟩ := str_parts h
  cases l with
  | nil => simp at hl
  | cons p t => exact hg.head.2
theorem sf_bd {l : List (Int × Int)} {run : Int} {r : Rat} (h : sfO l run = some r) : 0 ≤ r.num ∧ 0 < r.den := by
  obtain ⟨hs, hr, he⟩ := sf_parts h
  have h0 := sp0_bd hs
  rw [← he]
  exact ⟨Rat.num_nonneg.2 (mk_nonneg (Int.mul_nonneg hr.1 (by omega))), den_pos _⟩
/-- The slope for a run has this run. -/
theorem sf_back {l : List (Int × Int)} {run : Int} {r : Rat} (h : sfO l run = some r) (h1 : r.num ≤ 200) (h2 : (r.den : Int) ≤ 100) (h3 : r.num ≤ 2 * r.den) : ruO l r.num r.den (thk l) = some (run : Rat) := by
  obtain ⟨hs, hr, he⟩ := sf_parts h
  have hb := sf_bd h
  obtain ⟨hl, hg⟩ := str_parts hs
  have ht := thk_bd hg
  have h0 := sp0_bd hs
  have hv := spr_pos hg (d := thk l) (by omega) (by omega)
  unfold ruO
  have hre : reB l (thk l) = true := by unfold reB; rw [hs, inB_mk (by omega) (Int.le_refl _)]; rfl
  have hsl : slB r.num r.den = true := by unfold slB; rw [inB_mk (by omega) h1, inB_mk (by omega) h2, decide_eq_true h3]; rfl
  rw [if_pos (by rw [hre, hsl]; rfl)]
  obtain ⟨v, hv2⟩ : ∃ v : Nat, spr l (thk l) = v := ⟨(spr l (thk l)).toNat, by omega⟩
  obtain ⟨s, hs2⟩ : ∃ s : Nat, sp0 l = s := ⟨(sp0 l).toNat, by omega⟩
  rw [hv2, hs2, Int.toNat_natCast] at he
  rw [hv2, hs2, toNat_mul, ← mk_one]
  refine congrArg some ((mk_eq (Nat.mul_pos hb.2 (by omega)) (by omega)).2 ?_)
  have e : mkRat (run * s) v = mkRat r.num r.den := he.trans (mk_self r).symm
  have e2 := (mk_eq (by omega) hb.2).1 e
  rw [Int.natCast_mul]
  have e3 : run * ((r.den : Int) * (s : Int)) = run * (s : Int) * (r.den : Int) := by rw [Int.mul_assoc, Int.mul_comm (r.den : Int)]
  rw [e3, e2]
  simp
theorem dt_parts {l : List (Int × Int)} {d : Int} {r : Rat} (h : dtO l d = some r) : strB l = true ∧ (0 ≤ d ∧ d ≤ thk l) ∧ tmQ l d = r := by
  unfold dtO at h
  split at h
  · rename_i hb
    have := re_yes hb
    exact ⟨this.1, this.2, Option.some.inj h⟩
  · cases h
theorem dt_zero {l : List (Int × Int)} {d : Int} {r : Rat} (h : dtO l d = some r) : 0 ≤ r.num ∧ (r.num = 0 ↔ d = 0) := by
  obtain ⟨hs, hd, he⟩ := dt_parts h
  obtain ⟨hl, hg⟩ := str_parts hs
  have h1 := (tmQ_bd hg hd.1).1
  have h2 := tm_zero hg (by omega) hd.1
  rw [he] at h1 h2
  refine ⟨Rat.num_nonneg.2 h1, ?_⟩
  rw [Rat.num_eq_zero]; exact h2
theorem dt_den {l : List (Int × Int)} {d : Int} {r : Rat} (h : dtO l d = some r) : r.den ≤ 14198570000000000 := by
  obtain ⟨hs, hd, he⟩ := dt_parts h
  obtain ⟨hl, hg⟩ := str_parts hs
  have h2 := Nat.le_of_dvd (spd_bd hg).1 (tmQ_den hg d)
  have h3 := (spd_bd hg).2
  have h4 : 1700 ^ l.length ≤ 1700 ^ 5 := Nat.pow_le_pow_right (by omega) hl.2
  have e : (1700 : Nat) ^ 5 = 14198570000000000 := by decide
  rw [he] at h2
  omega
theorem da_parts {l : List (Int × Int)} {t : Int} {r : Rat} (h : daO l t = some r) : strB l = true ∧ (0 ≤ t ∧ t ≤ 200) ∧ dpQ l (t : Rat) = some r := by
  unfold daO at h
  split at h
  · rename_i hb
    rw [Bool.and_eq_true] at hb
    exact ⟨hb.1, inB_yes hb.2, h⟩
  · cases h
theorem da_range {l : List (Int × Int)} {t : Int} {r : Rat} (h : daO l t = some r) : (0 ≤ r.num ∧ r.num ≤ thk l * r.den) ∧ 0 < r.den ∧ r.den ≤ 83521000000000 := by
  obtain ⟨hs, ht, hd⟩ := da_parts h
  obtain ⟨hl, hg⟩ := str_parts hs
  have h1 := pow5 hl.2
  have hb := dp_bd (D := 8352100000000) hg (q := (t : Rat)) (Rat.intCast_nonneg.2 ht.1) hd (by rw [Rat.den_intCast]; omega)
  exact ⟨⟨Rat.num_nonneg.2 hb.1.1, (le_num _ _).1 hb.1.2⟩, den_pos r, hb.2⟩
/-- Sound is at the depth that it reaches after a time no later. -/
theorem da_time {l : List (Int × Int)} {t : Int} {r : Rat} (h : daO l t = some r) {F : Int} (h0 : 0 ≤ F) (h1 : F * r.den ≤ r.num) : ∃ s, dtO l F = some s ∧ s.num ≤ t * s.den := by
  obtain ⟨hs, ht, hd⟩ := da_parts h
  obtain ⟨hl, hg⟩ := str_parts hs
  have hr := da_range h
  have hF : F ≤ thk l := by
    have : F * (r.den : Int) ≤ thk l * r.den := Int.le_trans h1 hr.1.2
    exact Int.le_of_mul_le_mul_right this (by omega)
  refine ⟨tmQ l F, ?_, ?_⟩
  · unfold dtO reB
    rw [hs, inB_mk h0 hF]; rfl
  · exact (le_num _ _).1 (dp_time hg (Rat.intCast_nonneg.2 ht.1) hd h0 ((num_le _ _).2 h1))
/-- Sound reaches no greater depth in less time. -/
theorem da_less {l : List (Int × Int)} {t : Int} {r : Rat} (h : daO l t = some r) (h0 : 0 < t) : ∃ s, daO l (t - 1) = some s ∧ s.num / (s.den : Int) ≤ r.num / (r.den : Int) := by
  obtain ⟨hs, ht, hd⟩ := da_parts h
  obtain ⟨hl, hg⟩ := str_parts hs
  obtain ⟨s, h1, h2⟩ := dp_less hg (q := (t : Rat)) (q2 := ((t - 1 : Int) : Rat)) (Rat.intCast_nonneg.2 (by omega)) (Rat.intCast_le_intCast.2 (by omega)) hd
  refine ⟨s, ?_, ?_⟩
  · unfold daO
    rw [hs, inB_mk (by omega) (by omega)]; exact h1
  · have h3 := Rat.floor_monotone h2
    rwa [Rat.floor_def, Rat.floor_def] at h3
theorem mk_lt {n m : Int} {d e : Nat} (hd : 0 < d) (he : 0 < e) : mkRat n d < mkRat m e ↔ n * e < m * d := by
  rw [← Rat.not_le, mk_le he hd]; omega
/-- What a ray does in two layers, by their bend. -/
theorem bend_law {l : List (Int × Int)} (h : strB l = true) {k : Nat} (hk : k + 1 < l.length) : ∃ a b : Rat, slO l k 1 1 = some a ∧ slO l ((k : Int) + 1) 1 1 = some b ∧
    (0 ≤ a.num ∧ a.num ≤ 2890000) ∧ (0 ≤ b.num ∧ b.num ≤ 2890000) ∧ (0 < a.den ∧ a.den ≤ 1700) ∧ (0 < b.den ∧ b.den ≤ 1700) ∧
    (0 < bnD l k ↔ a.num * b.den < b.num * a.den) ∧ (bnD l k < 0 ↔ b.num * a.den < a.num * b.den) := by
  obtain ⟨hl, hg⟩ := str_parts h
  obtain ⟨p, hp⟩ : ∃ p, l[k]? = some p := ⟨l[k], List.getElem?_eq_getElem (by omega)⟩
  obtain ⟨x, y⟩ := p
  obtain ⟨p', hp'⟩ : ∃ p, l[k + 1]? = some p := ⟨l[k + 1], List.getElem?_eq_getElem hk⟩
  obtain ⟨x', y'⟩ := p'
  have hy := (hg.at_ hp).2
  have hy' := (hg.at_ hp').2
  have h0 := sp0_bd h
  obtain ⟨s, hs⟩ : ∃ s : Nat, sp0 l = s := ⟨(sp0 l).toNat, by omega⟩
  have e1 : slO l k 1 1 = some (mkRat y s) := by
    unfold slO
    rw [if_pos (by rw [h, inB_mk (by omega) (by omega)]; rfl), Int.toNat_natCast, getD_of hp, hs, Int.one_mul, Int.one_mul, Int.toNat_natCast]
  have e2 : slO l ((k : Int) + 1) 1 1 = some (mkRat y' s) := by
    unfold slO
    rw [if_pos (by rw [h, inB_mk (by omega) (by omega)]; rfl), show ((k : Int) + 1).toNat = k + 1 by omega, getD_of hp', hs, Int.one_mul, Int.one_mul, Int.toNat_natCast]
  have hsp : 0 < s := by omega
  have bd : ∀ z : Int, 1300 ≤ z ∧ z ≤ 1700 → (0 ≤ (mkRat z s).num ∧ (mkRat z s).num ≤ 2890000) ∧ (0 < (mkRat z s).den ∧ (mkRat z s).den ≤ 1700) := fun z hz => by
    have d1 := den_pos (mkRat z s)
    have d2 := Nat.le_of_dvd hsp (mk_den_dvd z hsp)
    refine ⟨⟨Rat.num_nonneg.2 (mk_nonneg (by omega)), ?_⟩, d1, by omega⟩
    have h1 : mkRat z s ≤ ((1700 : Int) : Rat) := by rw [← mk_one, mk_le hsp (by omega)]; omega
    have h2 := (le_num _ _).1 h1
    omega
  have hD : bnD l k = sgn (y' - y) := bnD_at hp' hp
  refine ⟨_, _, e1, e2, (bd y hy).1, (bd y' hy').1, (bd y hy).2, (bd y' hy').2, ?_, ?_⟩
  · rw [hD, ← Rat.lt_iff, mk_lt hsp hsp]
    have : y * (s : Int) < y' * s ↔ y < y' := Int.mul_lt_mul_right (by omega)
    rw [this]
    rcases Int.lt_trichotomy y y' with q | q | q
    · rw [sgn_pos (by omega)]; omega
    · rw [sgn_zero (by omega)]; omega
    · rw [sgn_neg (by omega)]; omega
  · rw [hD, ← Rat.lt_iff, mk_lt hsp hsp]
    have : y' * (s : Int) < y * s ↔ y' < y := Int.mul_lt_mul_right (by omega)
    rw [this]
    rcases Int.lt_trichotomy y y' with q | q | q
    · rw [sgn_pos (by omega)]; omega
    · rw [sgn_zero (by omega)]; omega
    · rw [sgn_neg (by omega)]; omega
end Go.Proofs.Ytdmnkmdlochogab
