/-
  Levels of a curve: contracts of impl.levelOf, spec.l4Asked, impl.LevelAt, spec.LevelAt over this translation. Conditions: stated at each theorem.
-/
import Derived.Test.YtdmnkmdlochogaaTl
import Derived.Deep.DeepCutAuto
namespace Go.Proofs.Ytdmnkmdlochogaa
open Go.RowKit

def askK (l : List (Int × Int)) (t : Int) : Bool := tideB l && inB t 0 10000
theorem asked_spec (A : Option Addr) (n c : Nat) (l : List (Int × Int)) (t : Int) (v : Bool) (h : askK l t = v) (w : World) (hs : Spots w w.heap.size A n l) (hm : n ≤ maxLen) :
    Calls Try.prog 103 #[.slice A n c, .int .i64 t] w fun e w' => e = .returned (.bool v) ∧ Below w.heap.size w w' := by
  have HS := Lib.hid hs
  subst h
  clear hs
  rcases hv : tideB l with _ | _
  · have HR : Hid (askK l t = false) := by unfold Hid askK; rw [hv]; rfl
    have HV := Lib.hid hv
    clear hv
    go_enter Try.func103, Try.ntmps103
    go_wp2_with fail
    refine (good_v _ _ _ l _ HV.out _ HS.out hm).mono ?_
    rintro e w1 ⟨rfl, hb⟩
    have HB := Lib.hid hb
    clear hb
    go_wp2_with fail
    go_ret
    exact ⟨ret_bool HR.out.symm, HB.out⟩
  · have HR : Hid (askK l t = inB t 0 10000) := by unfold Hid askK; rw [hv]; rfl
    have HV := Lib.hid hv
    clear hv
    rcases ht : inB t 0 10000 with _ | _
    all_goals
      have HT := Lib.hid ht
      clear ht
      go_enter Try.func103, Try.ntmps103
      go_wp2_with fail
      refine (good_v _ _ _ l _ HV.out _ HS.out hm).mono ?_
      rintro e w1 ⟨rfl, hb⟩
      have HB := Lib.hid hb
      clear hb
      go_wp2_with fail
      refine (time_spec _ _ HT.out _).mono ?_
      rintro e w' ⟨rfl, rfl⟩
      go_wp2_with fail
      go_ret
      exact ⟨ret_bool (HR.out.trans HT.out).symm, HB.out⟩

/-! ### impl.levelOf -/
def loK (l : List (Int × Int)) (t : Int) : Bool := askK l t && lvK l t
def loN (l : List (Int × Int)) (t : Int) : Int := if loK l t then rlN l t else 0
def loD (l : List (Int × Int)) (t : Int) : Int := if loK l t then (rlD l t : Int) else 0
def LoPost (l : List (Int × Int)) (t : Int) (w : World) (e : Ending) (w' : World) : Prop :=
  e = .returned (.tuple #[.agg #[.int .i64 (loN l t), .int .i64 (loD l t)], .bool (loK l t)]) ∧ Below w.heap.size w w'
theorem lo_no {l : List (Int × Int)} {t : Int} {w w' : World} (h : loK l t = false) (hb : Below w.heap.size w w') : LoPost l t w (.returned (.tuple #[.agg #[.int .i64 0, .int .i64 0], .bool false])) w' :=
  ⟨by unfold loN loD; rw [h]; rfl, hb⟩
theorem lo_yes {l : List (Int × Int)} {t : Int} {n d : Int} {w w' : World} (h : loK l t = true) (hn : rlN l t = n) (hd : (rlD l t : Int) = d) (hb : Below w.heap.size w w') : LoPost l t w (.returned (.tuple #[.agg #[.int .i64 n, .int .i64 d], .bool true])) w' :=
  ⟨by unfold loN loD; rw [h, if_pos rfl, if_pos rfl, hn, hd], hb⟩
theorem rl_one {l : List (Int × Int)} {t y : Int} (h : lvK l t = true ∧ (lvD l t : Int) = 1 ∧ lvN l t = y) : rlN l t = y ∧ (rlD l t : Int) = 1 := by
  have e : lvD l t = 1 := by have := h.2.1; omega
  unfold rlN rlD
  rw [e, h.2.2, rdN_one, rdD_one]
  exact ⟨rfl, rfl⟩
theorem mid_num (x y x2 y2 t : Int) : y * (x2 - x) + (y2 - y) * (t - x) = y * (x2 - t) + y2 * (t - x) := by
  rw [Int.sub_mul]
  have e : y * (x2 - x) = y * (x2 - t) + y * (t - x) := by rw [← Int.mul_add]; congr 1; omega
  rw [e]; omega
theorem rl_mid {l : List (Int × Int)} {t x y x2 y2 num : Int} {D : Nat} (hD : x2 - x = D) (h : lvK l t = true ∧ (lvD l t : Int) = x2 - x ∧ lvN l t = y * (x2 - t) + y2 * (t - x)) (hn : num = y * D + (y2 - y) * (t - x)) :
    rlN l t = num.tdiv (gd num D : Nat) ∧ (rlD l t : Int) = (D : Int) / (gd num D : Nat) := by
  have e : lvD l t = D := by have := h.2.1; omega
  have e2 : lvN l t = num := by rw [h.2.2, hn, ← hD, mid_num]
  unfold rlN rlD rdN
  rw [e, e2, rdD_cast]
  exact ⟨rfl, rfl⟩
theorem diff_bd {y y2 m : Int} (h1 : -1000 ≤ y ∧ y ≤ 2000) (h2 : -1000 ≤ y2 ∧ y2 ≤ 2000) (h3 : 0 ≤ m ∧ m ≤ 60) : -180000 ≤ (y2 - y) * m ∧ (y2 - y) * m ≤ 180000 := by
  have a := Int.mul_le_mul_of_nonneg_right (show -3000 ≤ y2 - y by omega) h3.1
  have b := Int.mul_le_mul_of_nonneg_right (show y2 - y ≤ 3000 by omega) h3.1
  omega
theorem box_frac {w w1 : World} (hb : Below (w.alloc (.cells #[.int .i64 0, .int .i64 0] 124)).heap.size (w.alloc (.cells #[.int .i64 0, .int .i64 0] 124)) w1) :
    Below w.heap.size w w1 ∧ Has w1 w.heap.size [.int .i64 0, .int .i64 0] := box1 hb
set_option maxRecDepth 20000 in
set_option maxHeartbeats 3200000 in
theorem levelOf_impl (A : Option Addr) (n c : Nat) (l : List (Int × Int)) (t : Int) (w : World) (hs : Spots w w.heap.size A n l) (hm : n ≤ maxLen) :
    Calls Try.prog 102 #[.slice A n c, .int .i64 t] w (LoPost l t w) := by
  obtain rfl := hs.1
  obtain ⟨V0, hV⟩ : ∃ W, W = w.alloc (.cells #[.int .i64 0, .int .i64 0] 124) := ⟨_, rfl⟩
  have HN0 : Hid (Below w.heap.size w V0 ∧ Has V0 w.heap.size [.int .i64 0, .int .i64 0]) := by rw [hV]; exact box1 (Below.refl _ _)
  have HS0 : Hid (Spots V0 V0.heap.size A l.length l) := Lib.hid (spots_at hs HN0.out.1)
  have HE := Lib.hid hV
  clear hV hs
  rcases hv : tideB l with _ | _
  · have HR : Hid (loK l t = false) := by unfold Hid loK askK; rw [hv]; rfl
    have HV := Lib.hid hv
    clear hv
    go_enter Try.func102, Try.ntmps102
    go_wp2_with fail
    try rw [← HE.out]
    refine (isT_v _ _ _ l _ HV.out _ HS0.out hm).mono ?_
    rintro e w1 ⟨rfl, hb⟩
    have HN := Lib.hid (And.intro (bthen HN0.out.1 hb HN0.out.1.size) (HN0.out.2.next hb))
    clear hb
    have z0 := HN.out.2.at_ 0 _ rfl
    have z1 := HN.out.2.at_ 1 _ rfl
    have zf0 := HN.out.2.free 0
    have zf1 := HN.out.2.free 1
    go_wp2_with fail
    refine bodyPost_ret (v := .tuple #[.agg #[.int .i64 0, .int .i64 0], .bool false]) (by simp [results, Try.results102, go_sem, z0, z1]) rfl (lo_no HR.out ?_)
    repeat (first | exact HN.out.1 | refine Below.setCell ?_ (by simp; try omega) _)
  rcases hi : inB t 0 10000 with _ | _
  · have HR : Hid (loK l t = false) := by unfold Hid loK askK; rw [hi, Bool.and_false]; rfl
    have HV := Lib.hid hv
    have HI := Lib.hid hi
    clear hv hi
    go_enter Try.func102, Try.ntmps102
    go_wp2_with fail
    try rw [← HE.out]
    refine (isT_v _ _ _ l _ HV.out _ HS0.out hm).mono ?_
    rintro e w1 ⟨rfl, hb⟩
    have HN := Lib.hid (And.intro (bthen HN0.out.1 hb HN0.out.1.size) (HN0.out.2.next hb))
    clear hb
    go_wp2_with fail
    refine (time_impl _ _ HI.out _).mono ?_
    rintro e w' ⟨rfl, rfl⟩
    have z0 := HN.out.2.at_ 0 _ rfl
    have z1 := HN.out.2.at_ 1 _ rfl
    have zf0 := HN.out.2.free 0
    have zf1 := HN.out.2.free 1
    go_wp2_with fail
    refine bodyPost_ret (v := .tuple #[.agg #[.int .i64 0, .int .i64 0], .bool false]) (by simp [results, Try.results102, go_sem, z0, z1]) rfl (lo_no HR.out ?_)
    repeat (first | exact HN.out.1 | refine Below.setCell ?_ (by simp; try omega) _)
  have HK : Hid (loK l t = lvK l t) := by unfold Hid loK askK; rw [hv, hi]; rfl
  have hib := inB_yes hi
  obtain ⟨hi1, hi2⟩ := hib
  have HA := Lib.hid (tide_asc hv)
  have hlen := (tide_parts hv).1.2
  have HV := Lib.hid hv
  have HI := Lib.hid hi
  clear hv hi
  go_enter Try.func102, Try.ntmps102
  go_wp2_with fail
  try rw [← HE.out]
  refine (isT_v _ _ _ l _ HV.out _ HS0.out hm).mono ?_
  rintro e w1 ⟨rfl, hb⟩
  have HN1 := Lib.hid (And.intro (bthen HN0.out.1 hb HN0.out.1.size) (HN0.out.2.next hb))
  have HS1 := Lib.hid (spots_more HS0.out hb)
  clear hb
  go_wp2_with fail
  refine (time_impl _ _ HI.out _).mono ?_
  rintro e w' ⟨rfl, rfl⟩
  go_wp2_with fail
  refine (tideAt_any _ _ _ l t _ HS1.out (by omega) HA.out).mono ?_
  rintro e w2 ⟨i, hlb, rfl, hb⟩
  have HN := Lib.hid (And.intro (bthen HN1.out.1 hb HN1.out.1.size) (HN1.out.2.next hb))
  have HS := Lib.hid (spots_more HS1.out hb)
  have HLB := Lib.hid hlb
  have hil := hlb.1
  clear hb hlb
  have z0 := HN.out.2.at_ 0 _ rfl
  have z1 := HN.out.2.at_ 1 _ rfl
  have zf0 := HN.out.2.free 0
  have zf1 := HN.out.2.free 1
  rcases hh : hitB l t i with _ | _
  · rcases i with _ | j
    · have HR : Hid (loK l t = false) := HK.out.trans (lv_no HLB.out hh (fun h => absurd h (by omega)))
      clear hh
      go_wp2_with fail
      refine bodyPost_ret (v := .tuple #[.agg #[.int .i64 0, .int .i64 0], .bool false]) (by simp [results, Try.results102, go_sem, z0, z1]) rfl (lo_no HR.out ?_)
      repeat (first | exact HN.out.1 | refine Below.setCell ?_ (by simp; try omega) _)
    have hj0 : (((j + 1 : Nat) : Int) == 0) = false := beq_eq_false_iff_ne.2 (by omega)
    have hj0' : (((j : Int) + 1) == 0) = false := beq_eq_false_iff_ne.2 (by omega)
    by_cases hn : j + 1 = l.length
    · have HR : Hid (loK l t = false) := HK.out.trans (lv_no HLB.out hh (fun _ h => absurd h (by omega)))
      have hj1 : (((j + 1 : Nat) : Int) == (l.length : Int)) = true := beq_iff_eq.2 (by omega)
      have hj1' : (((j : Int) + 1) == (l.length : Int)) = true := beq_iff_eq.2 (by omega)
      have hl0 : ((l.length : Int) == 0) = false := beq_eq_false_iff_ne.2 (by omega)
      clear hh
      go_wp2_with fail
      refine bodyPost_ret (v := .tuple #[.agg #[.int .i64 0, .int .i64 0], .bool false]) (by simp [results, Try.results102, go_sem, z0, z1]) rfl (lo_no HR.out ?_)
      repeat (first | exact HN.out.1 | refine Below.setCell ?_ (by simp; try omega) _)
    have hlt : j + 1 < l.length := by omega
    have hj1 : (((j + 1 : Nat) : Int) == (l.length : Int)) = false := beq_eq_false_iff_ne.2 (by omega)
    have hj1' : (((j : Int) + 1) == (l.length : Int)) = false := beq_eq_false_iff_ne.2 (by omega)
    rcases hg : decide (60 < tmAt l (j + 1) - tmAt l j) with _ | _
    · obtain ⟨b, o, x, y, rfl, hbl, hl, c0, c1⟩ := HS.out.2 j (by omega)
      obtain ⟨b', o', x2, y2, hA', hb', hl', d0, d1⟩ := HS.out.2 (j + 1) hlt
      obtain ⟨rfl, rfl⟩ : b = b' ∧ o = o' := by injection hA' with h; injection h with h h'; exact ⟨h, h'⟩
      have HLX := Lib.hid (And.intro hl hl')
      have e1 := tm_of hl
      have e2 := tm_of hl'
      have hgap := of_decide_eq_false hg
      have t1 := HLB.out.2.1 j (by omega)
      have t2 := HLB.out.2.2 (j + 1) (Nat.le_refl _) hlt
      have t3 := of_decide_eq_false hh
      have bx := tide_at HV.out (k := j) (by omega)
      have by_ := tide_at HV.out hlt
      rw [e1, lv_of hl] at bx
      rw [e2, lv_of hl'] at by_
      rw [e1, e2] at hgap
      rw [e1] at t1
      rw [e2] at t2 t3
      clear e1 e2 hl hl' hA' hb' hbl c0 c1 d0 d1
      obtain ⟨bx1, bx2⟩ := bx
      obtain ⟨by1, by2⟩ := by_
      have t4 : t < x2 := by omega
      clear t2 t3
      have HG := Lib.hid hg
      clear hh hg z0 z1 zf0 zf1
      go_wp2_with fail
      refine (tgap_impl _ _ _ l j _ _ HS.out hm HV.out (by omega) HG.out).mono ?_
      rintro e w3 ⟨rfl, hb⟩
      have HN3 := Lib.hid (And.intro (bthen HN.out.1 hb HN.out.1.size) (HN.out.2.next hb))
      have HS3 := Lib.hid (spots_more HS.out hb)
      clear hb
      obtain ⟨b', o', x', y', hA', hbl, hl, c0, c1⟩ := HS3.out.2 j (by omega)
      obtain ⟨rfl, rfl⟩ : b = b' ∧ o = o' := by injection hA' with h; injection h with h h'; exact ⟨h, h'⟩
      obtain ⟨rfl, rfl⟩ := Prod.mk.inj (Option.some.inj (HLX.out.1.symm.trans hl))
      obtain ⟨b', o', x', y', hA', hbl, hl, d0, d1⟩ := HS3.out.2 (j + 1) hlt
      obtain ⟨rfl, rfl⟩ : b = b' ∧ o = o' := by injection hA' with h; injection h with h h'; exact ⟨h, h'⟩
      obtain ⟨rfl, rfl⟩ := Prod.mk.inj (Option.some.inj (HLX.out.2.symm.trans hl))
      clear hA' hl hbl
      go_wp2_with fail
      go_cut [8, 9] (fun p q wx => ∃ g1 g2 : Nat, p = .pointer (some ⟨g1, 0, none⟩) ∧ q = .pointer (some ⟨g2, 0, none⟩) ∧ Hid (Below w3.heap.size w3 wx ∧ Has wx g1 [.int .i64 x, .int .i64 y] ∧ Has wx g2 [.int .i64 x2, .int .i64 y2]))
      case first =>
        go_region
        all_goals
          go_wp2_with fail
          go_meet
          first
            | with_reducible exact ⟨_, _, rfl, rfl, Lib.hid (box2 (Below.refl _ _).drew)⟩
            | with_reducible exact ⟨_, _, rfl, rfl, Lib.hid ⟨(box2 (Below.refl _ _).drew).1, (box2 (Below.refl _ _).drew).2.2, (box2 (Below.refl _ _).drew).2.1⟩⟩
      case rest =>
        obtain ⟨g1, g2, rfl, rfl, hW⟩ := hcut
        obtain ⟨W4, rfl⟩ : ∃ W4 : World, W4 = wc := ⟨_, rfl⟩
        have HN4 := Lib.hid (And.intro (bthen HN3.out.1 hW.out.1 HN3.out.1.size) (HN3.out.2.next hW.out.1))
        have HR : Hid (lvK l t = true ∧ (lvD l t : Int) = x2 - x ∧ lvN l t = y * (x2 - t) + y2 * (t - x)) := at_mid HA.out hlt HLX.out.1 HLX.out.2 (by omega) (by omega) (by omega)
        have a0 := hW.out.2.1.at_ 0 _ rfl
        have a1 := hW.out.2.1.at_ 1 _ rfl
        have b0 := hW.out.2.2.at_ 0 _ rfl
        have b1 := hW.out.2.2.at_ 1 _ rfl
        clear c0 c1 d0 d1
        obtain ⟨D, hD⟩ : ∃ D : Nat, x2 - x = D := ⟨(x2 - x).toNat, by omega⟩
        have m1 := mul_bd (y := y) (m := D) bx2 (by omega)
        have m2 := diff_bd (y := y) (y2 := y2) (m := t - x) bx2 by2 (by omega)
        obtain ⟨m11, m12⟩ := m1
        obtain ⟨m21, m22⟩ := m2
        have hD2 : 0 < D ∧ D ≤ 60 := by omega
        go_wp2_with fail
        have lc0 := lcell (a0)
        have lc1 := lcell (a1)
        have lc2 := lcell (b0)
        have lc3 := lcell (b1)
        refine region_later (W := W4) (by kernel_rfl) (by kernel_rfl) (Below.refl _ _) ?_
        repeat (go_big_quiet_step (fail))
        refine wpQuiet_nil ?_
        intro W5 hW1
        have HL : Hid (Below W4.heap.size W4 W5) := by obtain ⟨x, rfl⟩ := hW1; exact Lib.hid x.below
        clear hW1 lc0 lc1 lc2 lc3
        have HN5 := Lib.hid (And.intro (bthen HN4.out.1 HL.out HN4.out.1.size) (HN4.out.2.next HL.out))
        have f0 := cell_next HL.out a0
        have f1 := cell_next HL.out a1
        clear a0 a1 b0 b1
        go_wp2_with fail
        obtain ⟨num, hnum⟩ : ∃ num, num = y * (D : Int) + (y2 - y) * (t - x) := ⟨_, rfl⟩
        rw [← hnum]
        refine (lowest_impl num D _ (by omega) (by omega) hD2.1 (by omega)).mono ?_
        rintro e w6 ⟨rfl, hb⟩
        have HF := Lib.hid (rl_mid hD HR.out hnum)
        have HN := Lib.hid (And.intro (bthen HN5.out.1 hb HN5.out.1.size) (HN5.out.2.next hb))
        clear hb f0 f1 hnum
        have z0 := HN.out.2.at_ 0 _ rfl
        have z1 := HN.out.2.at_ 1 _ rfl
        have zf0 := HN.out.2.free 0
        have zf1 := HN.out.2.free 1
        go_wp2_with fail
        refine bodyPost_ret (v := .tuple #[.agg #[.int .i64 (num.tdiv (gd num D : Nat)), .int .i64 ((D : Int) / (gd num D : Nat))], .bool true]) (by simp [results, Try.results102, go_sem, z0, z1]) rfl (lo_yes (HK.out.trans HR.out.1) HF.out.1 HF.out.2 ?_)
        repeat (first | exact HN.out.1 | refine Below.setCell ?_ (by simp; try omega) _)
    · have HR : Hid (loK l t = false) := HK.out.trans (lv_no HLB.out hh (fun _ _ => of_decide_eq_true hg))
      have HG := Lib.hid hg
      clear hh hg z0 z1 zf0 zf1
      go_wp2_with fail
      refine (tgap_impl _ _ _ l j _ _ HS.out hm HV.out (by omega) HG.out).mono ?_
      rintro e w3 ⟨rfl, hb⟩
      have HN3 := Lib.hid (And.intro (bthen HN.out.1 hb HN.out.1.size) (HN.out.2.next hb))
      have HS3 := Lib.hid (spots_more HS.out hb)
      clear hb
      have z0 := HN3.out.2.at_ 0 _ rfl
      have z1 := HN3.out.2.at_ 1 _ rfl
      have zf0 := HN3.out.2.free 0
      have zf1 := HN3.out.2.free 1
      go_wp2_with fail
      refine bodyPost_ret (v := .tuple #[.agg #[.int .i64 0, .int .i64 0], .bool false]) (by simp [results, Try.results102, go_sem, z0, z1]) rfl (lo_no HR.out ?_)
      repeat (first | exact HN3.out.1 | refine Below.setCell ?_ (by simp; try omega) _)
  · have hh' := of_decide_eq_true hh
    obtain ⟨b, o, x, y, rfl, hbl, hl, c0, c1⟩ := HS.out.2 i hh'.1
    have HR : Hid (lvK l t = true ∧ (lvD l t : Int) = 1 ∧ lvN l t = y) := at_here HA.out hh'.1 hl (by have := hh'.2; rw [tm_of hl] at this; exact this)
    have hlt := hh'.1
    clear hh hh' hl
    go_wp2_with fail
    refine bodyPost_ret (v := .tuple #[.agg #[.int .i64 y, .int .i64 1], .bool true]) (by simp [results, Try.results102, go_sem, z0, z1]) rfl (lo_yes (HK.out.trans HR.out.1) (rl_one HR.out).1 (rl_one HR.out).2 ?_)
    repeat (first | exact HN.out.1 | refine Below.setCell ?_ (by simp; try omega) _)

/-! ### LevelAt -/
theorem ask_yes {l : List (Int × Int)} {t : Int} (h : askK l t = true) : tideB l = true ∧ 0 ≤ t ∧ t ≤ 10000 := by
  unfold askK at h
  rw [Bool.and_eq_true] at h
  exact ⟨h.1, inB_yes h.2⟩
def LaPost (l : List (Int × Int)) (t : Int) (w : World) (e : Ending) (w' : World) : Prop :=
  e = .returned (.tuple #[.int .i64 (loN l t), .int .i64 (loD l t), .bool (loK l t)]) ∧ Below w.heap.size w w'
theorem la_no {l : List (Int × Int)} {t : Int} {w w' : World} (h : loK l t = false) (hb : Below w.heap.size w w') : LaPost l t w (.returned (.tuple #[.int .i64 0, .int .i64 0, .bool false])) w' :=
  ⟨by unfold loN loD; rw [h]; rfl, hb⟩
theorem la_yes {l : List (Int × Int)} {t : Int} {n d : Int} {w w' : World} (h : loK l t = true) (hn : rlN l t = n) (hd : (rlD l t : Int) = d) (hb : Below w.heap.size w w') : LaPost l t w (.returned (.tuple #[.int .i64 n, .int .i64 d, .bool true])) w' :=
  ⟨by unfold loN loD; rw [h, if_pos rfl, if_pos rfl, hn, hd], hb⟩
theorem levelAt_impl (A : Option Addr) (n c : Nat) (l : List (Int × Int)) (t : Int) (w : World) (hs : Spots w w.heap.size A n l) (hm : n ≤ maxLen) :
    Calls Try.prog 33 #[.slice A n c, .int .i64 t] w (LaPost l t w) := by
  have HS := Lib.hid hs
  clear hs
  go_enter Try.func33, Try.ntmps33
  go_wp2_with fail
  refine (levelOf_impl _ _ _ l t _ HS.out hm).mono ?_
  rintro e w1 ⟨rfl, hb⟩
  obtain ⟨W0, hW0⟩ : ∃ W0, W0 = w1.alloc (.cells #[.int .i64 (loN l t), .int .i64 (loD l t)] 124) := ⟨_, rfl⟩
  have HW : Hid (Below w1.heap.size w1 W0 ∧ Has W0 w1.heap.size [.int .i64 (loN l t), .int .i64 (loD l t)]) := by rw [hW0]; exact box1 (Below.refl _ _)
  have HB0 := Lib.hid (bthen hb HW.out.1 hb.size)
  have a0 := HW.out.2.at_ 0 _ rfl
  have a1 := HW.out.2.at_ 1 _ rfl
  have HE := Lib.hid hW0
  clear hW0 hb
  go_wp2_with fail
  rw [← HE.out]
  have lc0 := lcell (a0)
  have lc1 := lcell (a1)
  refine region_later (W := W0) (by kernel_rfl) (by kernel_rfl) (Below.refl _ _) ?_
  repeat (go_big_quiet_step (fail))
  refine wpQuiet_nil ?_
  intro W1 hW1
  have HL : Hid (Below W0.heap.size W0 W1) := by obtain ⟨x, rfl⟩ := hW1; exact Lib.hid x.below
  clear hW1 lc0 lc1
  have HT := Lib.hid (bthen HB0.out HL.out HB0.out.size)
  go_wp2_with fail
  go_ret3
  exact ⟨rfl, HT.out⟩
theorem asked_at (A : Option Addr) (n c : Nat) (l : List (Int × Int)) (t : Int) (n0 d0 : Int) (k : Bool) (hn : l4N l t = n0) (hd : l4D l t = d0) (hk : lvK l t = k) (w : World) (hs : Spots w w.heap.size A n l) (ht : askK l t = true) :
    Calls Try.prog 104 #[.slice A n c, .int .i64 t] w fun e w' => e = .returned (.tuple #[.int .i64 n0, .int .i64 d0, .bool k]) ∧ Below w.heap.size w w' := by
  subst hn hd hk
  exact at4_spec A n c l t w hs (ask_yes ht).1 (ask_yes ht).2.1 (ask_yes ht).2.2
set_option maxHeartbeats 800000 in
theorem levelAt_spec (A : Option Addr) (n c : Nat) (l : List (Int × Int)) (t : Int) (w : World) (hs : Spots w w.heap.size A n l) (hm : n ≤ maxLen) :
    Calls Try.prog 34 #[.slice A n c, .int .i64 t] w (LaPost l t w) := by
  have HS := Lib.hid hs
  clear hs
  rcases ha : askK l t with _ | _
  · have HR : Hid (loK l t = false) := by unfold Hid loK; rw [ha]; rfl
    have HV := Lib.hid ha
    clear ha
    go_enter Try.func34, Try.ntmps34
    go_wp2_with fail
    refine (asked_spec _ _ _ l t _ HV.out _ HS.out hm).mono ?_
    rintro e w1 ⟨rfl, hb⟩
    have HB := Lib.hid hb
    clear hb
    go_wp2_with fail
    go_ret3
    exact la_no HR.out HB.out
  have HV := Lib.hid ha
  rcases hk : lvK l t with _ | _
  · have HR : Hid (loK l t = false) := by unfold Hid loK; rw [ha, hk]; rfl
    have HQ : Hid (l4N l t = 0 ∧ l4D l t = 0 ∧ lvK l t = false) := by unfold Hid l4N l4D; rw [hk]; exact ⟨rfl, rfl, rfl⟩
    clear ha hk
    go_enter Try.func34, Try.ntmps34
    go_wp2_with fail
    refine (asked_spec _ _ _ l t _ HV.out _ HS.out hm).mono ?_
    rintro e w1 ⟨rfl, hb⟩
    have HB := Lib.hid hb
    have HS1 := Lib.hid (spots_at HS.out hb)
    clear hb
    go_wp2_with fail
    refine (asked_at _ _ _ l t _ _ _ HQ.out.1 HQ.out.2.1 HQ.out.2.2 _ HS1.out HV.out).mono ?_
    rintro e w2 ⟨rfl, hb⟩
    have HB2 := Lib.hid (bthen HB.out hb HB.out.size)
    clear hb
    go_wp2_with fail
    go_ret3
    exact la_no HR.out HB2.out
  · have HR : Hid (loK l t = true) := by unfold Hid loK; rw [ha, hk]; rfl
    have HQ : Hid (l4N l t = lvN l t ∧ l4D l t = (lvD l t : Nat) ∧ lvK l t = true) := by unfold Hid l4N l4D; rw [hk]; exact ⟨rfl, rfl, rfl⟩
    have hbd := lv_bd (ask_yes ha).1 hk
    clear ha hk
    obtain ⟨N, hN⟩ : ∃ N, N = lvN l t := ⟨_, rfl⟩
    obtain ⟨D, hD⟩ : ∃ D, D = lvD l t := ⟨_, rfl⟩
    rw [← hN, ← hD] at HQ hbd
    have HF : Hid (rlN l t = N.tdiv (gd N D : Nat) ∧ (rlD l t : Int) = (D : Int) / (gd N D : Nat)) := by unfold Hid rlN rlD rdN; rw [← hN, ← hD, rdD_cast]; exact ⟨rfl, rfl⟩
    clear hN hD
    go_enter Try.func34, Try.ntmps34
    go_wp2_with fail
    refine (asked_spec _ _ _ l t _ HV.out _ HS.out hm).mono ?_
    rintro e w1 ⟨rfl, hb⟩
    have HB := Lib.hid hb
    have HS1 := Lib.hid (spots_at HS.out hb)
    clear hb
    go_wp2_with fail
    refine (asked_at _ _ _ l t _ _ _ HQ.out.1 HQ.out.2.1 HQ.out.2.2 _ HS1.out HV.out).mono ?_
    rintro e w2 ⟨rfl, hb⟩
    have HB2 := Lib.hid (bthen HB.out hb HB.out.size)
    clear hb
    go_wp2_with fail
    refine (reduce_spec N D _ (by omega) (by omega) (by omega) (by omega)).mono ?_
    rintro e w3 ⟨rfl, hb⟩
    have HB3 := Lib.hid (bthen HB2.out hb HB2.out.size)
    clear hb
    go_wp2_with fail
    go_ret3
    exact la_yes HR.out HF.out.1 HF.out.2 HB3.out
end Go.Proofs.Ytdmnkmdlochogaa
