/-
  Levels: contracts of impl.isTideGap, spec.l4At, impl.levelOf, spec.l4Asked, impl.LevelAt, spec.LevelAt over this translation. Conditions: stated at each theorem.
-/
import Derived.Test.YtdmnkmdlochogaaTa
import Derived.BigRegion
import Derived.Deep.QuietTactic
import Derived.BigQuiet
namespace Go.Proofs.Ytdmnkmdlochogaa
open Go.RowKit

/-! ### impl.isTideGap -/
theorem tgap_impl (A : Option Addr) (n c : Nat) (l : List (Int × Int)) (k : Nat) (v : Bool) (w : World) (hs : Spots w w.heap.size A n l) (hm : n ≤ maxLen) (ht : tideB l = true) (hk : k + 1 < n) (hv : decide (60 < tmAt l (k + 1) - tmAt l k) = v) :
    Calls Try.prog 121 #[.slice A n c, .int .i64 k] w fun e w' => e = .returned (.bool v) ∧ Below w.heap.size w w' := by
  obtain rfl := hs.1
  unfold maxLen at hm
  obtain ⟨b, o, x, y, rfl, hb, hl, c0, c1⟩ := hs.2 k (by omega)
  obtain ⟨b', o', x2, y2, hA', hb', hl', d0, d1⟩ := hs.2 (k + 1) hk
  obtain ⟨rfl, rfl⟩ : b = b' ∧ o = o' := by injection hA' with h; injection h with h h'; exact ⟨h, h'⟩
  have b1 := (tide_at ht (k := k) (by omega)).1
  have b2 := (tide_at ht hk).1
  rw [tm_of hl] at b1
  rw [tm_of hl'] at b2
  rw [tm_of hl, tm_of hl'] at hv
  subst hv
  clear hs hl hl' hA' hb'
  by_cases hg : 60 < x2 - x
  · have H := Lib.hid (decide_eq_true hg)
    have hd := H.out
    go_enter Try.func121, Try.ntmps121
    go_wp2_with fail
    have lc0 := lcell (c0)
    have lc1 := lcell (d0)
    refine region_later (W := w) (by kernel_rfl) (by kernel_rfl) (Below.refl _ _) ?_
    repeat (go_big_quiet_step (fail))
    refine wpQuiet_nil ?_
    intro W1 hW1
    have HL : Hid (Below w.heap.size w W1) := by obtain ⟨x, rfl⟩ := hW1; exact Lib.hid x.below
    clear hW1 lc0 lc1
    go_wp2_with fail
    go_ret
    exact ⟨ret_bool H.out.symm, HL.out⟩
  · have H := Lib.hid (decide_eq_false hg)
    have hd := H.out
    go_enter Try.func121, Try.ntmps121
    go_wp2_with fail
    have lc0 := lcell (c0)
    have lc1 := lcell (d0)
    refine region_later (W := w) (by kernel_rfl) (by kernel_rfl) (Below.refl _ _) ?_
    repeat (go_big_quiet_step (fail))
    refine wpQuiet_nil ?_
    intro W1 hW1
    have HL : Hid (Below w.heap.size w W1) := by obtain ⟨x, rfl⟩ := hW1; exact Lib.hid x.below
    clear hW1 lc0 lc1
    go_wp2_with fail
    go_ret
    exact ⟨ret_bool H.out.symm, HL.out⟩

/-! ### spec.l4At -/
def l4N (l : List (Int × Int)) (t : Int) : Int := if lvK l t then lvN l t else 0
def l4D (l : List (Int × Int)) (t : Int) : Int := if lvK l t then (lvD l t : Int) else 0
def LvPost (l : List (Int × Int)) (t : Int) (w : World) (e : Ending) (w' : World) : Prop :=
  e = .returned (.tuple #[.int .i64 (l4N l t), .int .i64 (l4D l t), .bool (lvK l t)]) ∧ Below w.heap.size w w'
theorem lv_none {l : List (Int × Int)} {t : Int} {w w' : World} (h : lvK l t = false) (hb : Below w.heap.size w w') : LvPost l t w (.returned (.tuple #[.int .i64 0, .int .i64 0, .bool false])) w' :=
  ⟨by unfold l4N l4D; rw [h]; rfl, hb⟩
theorem lv_some {l : List (Int × Int)} {t : Int} {n d : Int} {w w' : World} (h : lvK l t = true ∧ (lvD l t : Int) = d ∧ lvN l t = n) (hb : Below w.heap.size w w') : LvPost l t w (.returned (.tuple #[.int .i64 n, .int .i64 d, .bool true])) w' :=
  ⟨by unfold l4N l4D; rw [h.1, if_pos rfl, if_pos rfl, h.2.1, h.2.2], hb⟩
/-- No tide ahead of k is at t, and no interval ahead of k has a level at t. -/
def Past (l : List (Int × Int)) (t : Int) (k : Nat) : Prop := ∀ p, p < k → p < l.length → tmAt l p ≠ t ∧ (p + 1 < l.length → tmAt l p ≤ t → t ≤ tmAt l (p + 1) → 60 < tmAt l (p + 1) - tmAt l p)
theorem past_step {l : List (Int × Int)} {t : Int} {k : Nat} (h : Past l t k) (h1 : tmAt l k ≠ t) (h2 : k + 1 < l.length → tmAt l k ≤ t → t ≤ tmAt l (k + 1) → 60 < tmAt l (k + 1) - tmAt l k) : Past l t (k + 1) := fun p hp hl => by
  rcases Nat.lt_or_ge p k with h3 | h3
  · exact h p h3 hl
  · obtain rfl : p = k := by omega
    exact ⟨h1, h2⟩
theorem past_end {l : List (Int × Int)} (ha : Asc l) {t : Int} (h : Past l t l.length) : lvK l t = false := by
  have hl := lb_ex l ha t
  rcases hh : hitB l t (lbK l t) with _ | _
  · refine lv_no hl hh fun h1 h2 => ?_
    obtain ⟨j, hj⟩ : ∃ j, lbK l t = j + 1 := ⟨lbK l t - 1, by omega⟩
    rw [hj] at hl h2 ⊢
    have h3 := hl.2.1 j (by omega)
    have h4 := hl.2.2 (j + 1) (Nat.le_refl _) h2
    exact (h j (by omega) (by omega)).2 h2 (by omega) h4
  · have h1 := of_decide_eq_true hh
    exact absurd h1.2 (h _ h1.1 h1.1).1
theorem lb_at {l : List (Int × Int)} (ha : Asc l) {t : Int} {k : Nat} (hk : k < l.length) (h : tmAt l k = t) : IsLb l t k ∧ hitB l t k = true :=
  ⟨⟨Nat.le_of_lt hk, fun p hp => by have := ha p k hp hk; omega, fun p hp hp' => by
    rcases Nat.lt_or_ge k p with h1 | h1
    · have := ha k p h1 hp'; omega
    · obtain rfl : p = k := by omega
      omega⟩, decide_eq_true ⟨hk, h⟩⟩
theorem lb_in {l : List (Int × Int)} (ha : Asc l) {t : Int} {k : Nat} (hk : k + 1 < l.length) (h1 : tmAt l k < t) (h2 : t < tmAt l (k + 1)) : IsLb l t (k + 1) ∧ hitB l t (k + 1) = false :=
  ⟨⟨Nat.le_of_lt hk, fun p hp => by
    rcases Nat.lt_or_ge p k with h3 | h3
    · have := ha p k h3 (by omega); omega
    · obtain rfl : p = k := by omega
      exact h1, fun p hp hp' => by
    rcases Nat.lt_or_ge (k + 1) p with h3 | h3
    · have := ha (k + 1) p h3 hp'; omega
    · obtain rfl : p = k + 1 := by omega
      omega⟩, decide_eq_false (by omega)⟩
theorem at_here {l : List (Int × Int)} (ha : Asc l) {t : Int} {k : Nat} {x y : Int} (hk : k < l.length) (hl : l[k]? = some (x, y)) (h : x = t) : lvK l t = true ∧ (lvD l t : Int) = 1 ∧ lvN l t = y := by
  have h1 := lb_at ha hk ((tm_of hl).trans h)
  have h2 := lv_hit h1.1 h1.2
  rw [lv_of hl] at h2
  exact ⟨h2.1, by rw [h2.2.1]; rfl, h2.2.2⟩
theorem at_mid {l : List (Int × Int)} (ha : Asc l) {t : Int} {k : Nat} {x y x2 y2 : Int} (hk : k + 1 < l.length) (hl : l[k]? = some (x, y)) (hl2 : l[k + 1]? = some (x2, y2)) (h1 : x < t) (h2 : t < x2) (hg : x2 - x ≤ 60) :
    lvK l t = true ∧ (lvD l t : Int) = x2 - x ∧ lvN l t = y * (x2 - t) + y2 * (t - x) := by
  have e1 := tm_of hl
  have e2 := tm_of hl2
  have h3 := lb_in ha hk (by rw [e1]; exact h1) (by rw [e2]; exact h2)
  have h4 := lv_mid h3.1 h3.2 hk (by rw [e1, e2]; exact hg)
  rw [lv_of hl, lv_of hl2, e1, e2] at h4
  exact ⟨h4.1, by rw [h4.2.1]; omega, h4.2.2⟩
theorem mul_bd {y m : Int} (h1 : -1000 ≤ y ∧ y ≤ 2000) (h2 : 0 ≤ m ∧ m ≤ 10000) : -20000000 ≤ y * m ∧ y * m ≤ 20000000 := by
  have a := Int.mul_le_mul_of_nonneg_right h1.1 h2.1
  have b := Int.mul_le_mul_of_nonneg_right h1.2 h2.1
  omega
set_option maxRecDepth 20000 in
set_option maxHeartbeats 1600000 in
theorem at4_spec (A : Option Addr) (n c : Nat) (l : List (Int × Int)) (t : Int) (w : World) (hs : Spots w w.heap.size A n l) (ht : tideB l = true) (h0 : 0 ≤ t) (h1 : t ≤ 10000) :
    Calls Try.prog 104 #[.slice A n c, .int .i64 t] w (LvPost l t w) := by
  obtain rfl := hs.1
  have HA := Lib.hid (tide_asc ht)
  have HTB := Lib.hid ht
  have hlen := (tide_parts ht).1.2
  clear ht
  go_enter Try.func104, Try.ntmps104
  go_wp2_with fail
  go_loopw [7] (fun i wr => ∃ k : Nat, k ≤ l.length ∧ i = .int .i64 k ∧ Hid (Past l t k) ∧ Hid (Below w.heap.size w wr)) (fun i _ => l.length - (intOf i).toNat)
  case atStart => exact ⟨0, Nat.zero_le _, rfl, Lib.hid (fun p h => absurd h (by omega)), Lib.hid (Below.refl _ _)⟩
  case round =>
    obtain ⟨k, hk, rfl, hP, hB⟩ := hrel
    by_cases hlt : k < l.length
    · obtain ⟨b, o, x, y, rfl, hbl, hl, c0, c1⟩ := (hs.on hB.out (Nat.le_refl _)).2 k hlt
      have HL0 := Lib.hid hl
      have bx := tide_at HTB.out hlt
      rw [tm_of hl, lv_of hl] at bx
      obtain ⟨bx1, bx2⟩ := bx
      clear hl
      obtain ⟨W0, hW0⟩ : ∃ W0, W0 = wr.alloc (.cells #[.int .i64 x, .int .i64 y] 50) := ⟨_, rfl⟩
      have HW : Hid (Below wr.heap.size wr W0 ∧ Has W0 wr.heap.size [.int .i64 x, .int .i64 y]) := by rw [hW0]; exact box1 (Below.refl _ _)
      have HB0 := Lib.hid (bthen hB.out HW.out.1 hB.out.size)
      have a0 := HW.out.2.at_ 0 _ rfl
      have a1 := HW.out.2.at_ 1 _ rfl
      have HE := Lib.hid hW0
      clear hW0
      by_cases hx : x = t
      · subst hx
        have HR : Hid (lvK l x = true ∧ (lvD l x : Int) = 1 ∧ lvN l x = y) := at_here HA.out hlt HL0.out rfl
        go_wp2_with fail
        rw [← HE.out]
        go_wp2_with fail
        go_ret3
        exact lv_some HR.out HB0.out
      have hxb : (x == t) = false := beq_eq_false_iff_ne.2 hx
      go_wp2_with fail
      rw [← HE.out]
      go_wp2_with fail
      by_cases hk2 : k + 1 < l.length
      · obtain ⟨b', o', x2, y2, hA', hb', hl', d0, d1⟩ := (hs.on hB.out (Nat.le_refl _)).2 (k + 1) hk2
        obtain ⟨rfl, rfl⟩ : b = b' ∧ o = o' := by injection hA' with h; injection h with h h'; exact ⟨h, h'⟩
        have HL2 := Lib.hid hl'
        have bx' := tide_at HTB.out hk2
        rw [tm_of hl', lv_of hl'] at bx'
        obtain ⟨bx3, bx4⟩ := bx'
        have e0 := cell_next HW.out.1 d0
        have e1 := cell_next HW.out.1 d1
        clear hl' hA' hb' d0 d1
        by_cases hi : x ≤ t ∧ t ≤ x2 ∧ x2 - x ≤ 60
        · have hv : Hid (inB t x x2 = true) := inB_mk hi.1 hi.2.1
          obtain ⟨hi1, hi2, hi3⟩ := hi
          have hd0 : decide ((k : Int) + 1 < (l.length : Int)) = true := decide_eq_true (by omega)
          have hd1 : decide (x2 - x ≤ 60) = true := decide_eq_true hi3
          have lc0 := lcell (a0)
          have lc1 := lcell (a1)
          have lc2 := lcell (e0)
          refine region_later (W := W0) (by kernel_rfl) (by kernel_rfl) (Below.refl _ _) ?_
          repeat (go_big_quiet_step (((go_at_call 111; exact later_same (l1In_v _ _ _ _ hv.out _)))))
          refine wpQuiet_nil ?_
          intro W1 hW1
          have HL : Hid (Below W0.heap.size W0 W1) := by obtain ⟨x, rfl⟩ := hW1; exact Lib.hid x.below
          clear hW1 lc0 lc1 lc2
          have HB1 := Lib.hid (bthen HB0.out HL.out HB0.out.size)
          have HX1 := Lib.hid (HW.out.2.next HL.out)
          have f0 := cell_next HL.out e0
          have f1 := cell_next HL.out e1
          clear a0 a1 e0 e1 c0 c1
          obtain ⟨W2, hW2⟩ : ∃ W2, W2 = W1.alloc (.cells #[.int .i64 x2, .int .i64 y2] 50) := ⟨_, rfl⟩
          have HV : Hid (Below W1.heap.size W1 W2 ∧ Has W2 W1.heap.size [.int .i64 x2, .int .i64 y2]) := by rw [hW2]; exact box1 (Below.refl _ _)
          have HB2 := Lib.hid (bthen HB1.out HV.out.1 HB1.out.size)
          have HX2 := Lib.hid (HX1.out.next HV.out.1)
          have a0 := HX2.out.at_ 0 _ rfl
          have a1 := HX2.out.at_ 1 _ rfl
          have b0 := HV.out.2.at_ 0 _ rfl
          have b1 := HV.out.2.at_ 1 _ rfl
          have HE2 := Lib.hid hW2
          clear hW2
          by_cases hx2 : x2 = t
          · subst hx2
            have HR : Hid (lvK l x2 = true ∧ (lvD l x2 : Int) = 1 ∧ lvN l x2 = y2) := at_here HA.out hk2 HL2.out rfl
            go_wp2_with fail
            rw [← HE2.out]
            go_wp2_with fail
            go_ret3
            exact lv_some HR.out HB2.out
          · have hxb2 : (x2 == t) = false := beq_eq_false_iff_ne.2 hx2
            have HR : Hid (lvK l t = true ∧ (lvD l t : Int) = x2 - x ∧ lvN l t = y * (x2 - t) + y2 * (t - x)) := at_mid HA.out hk2 HL0.out HL2.out (by omega) (by omega) hi3
            have m1 := mul_bd (y := y) (m := x2 - t) bx2 (by omega)
            have m2 := mul_bd (y := y2) (m := t - x) bx4 (by omega)
            obtain ⟨m11, m12⟩ := m1
            obtain ⟨m21, m22⟩ := m2
            go_wp2_with fail
            rw [← HE2.out]
            go_wp2_with fail
            have lc0 := lcell (a0)
            have lc1 := lcell (a1)
            have lc2 := lcell (b0)
            have lc3 := lcell (b1)
            refine region_later (W := W2) (by kernel_rfl) (by kernel_rfl) (Below.refl _ _) ?_
            repeat (go_big_quiet_step (fail))
            refine wpQuiet_nil ?_
            intro W3 hW1
            have HL : Hid (Below W2.heap.size W2 W3) := by obtain ⟨x, rfl⟩ := hW1; exact Lib.hid x.below
            clear hW1 lc0 lc1 lc2 lc3
            have HB3 := Lib.hid (bthen HB2.out HL.out HB2.out.size)
            go_wp2_with fail
            go_ret3
            exact lv_some HR.out HB3.out
        · have HN : Hid (Past l t (k + 1)) := past_step hP.out (by rw [tm_of HL0.out]; exact hx) (fun _ h2 h3 => by rw [tm_of HL0.out] at h2 ⊢; rw [tm_of HL2.out] at h3 ⊢; omega)
          have hd0 : decide ((k : Int) + 1 < (l.length : Int)) = true := decide_eq_true (by omega)
          rcases hv : inB t x x2 with _ | _
          · have HV := Lib.hid hv
            have lc0 := lcell (a0)
            have lc1 := lcell (a1)
            have lc2 := lcell (e0)
            refine region_later (W := W0) (by kernel_rfl) (by kernel_rfl) (Below.refl _ _) ?_
            repeat (go_big_quiet_step (((go_at_call 111; exact later_same (l1In_v _ _ _ _ HV.out _)))))
            refine wpQuiet_nil ?_
            intro W1 hW1
            have HL : Hid (Below W0.heap.size W0 W1) := by obtain ⟨x, rfl⟩ := hW1; exact Lib.hid x.below
            clear hW1 lc0 lc1 lc2
            have HB1 := Lib.hid (bthen HB0.out HL.out HB0.out.size)
            clear hd0 a0 a1 e0 e1 c0 c1
            go_wp2_with fail
            go_roundw
            case rel => exact ⟨k + 1, by omega, by go_num, HN, HB1⟩
            case measure => simp [intOf]; omega
          · have HV := Lib.hid hv
            have hi2 := inB_yes hv
            have hi3 : ¬ x2 - x ≤ 60 := by omega
            have hd1 : decide (x2 - x ≤ 60) = false := decide_eq_false hi3
            clear hv
            have lc0 := lcell (a0)
            have lc1 := lcell (a1)
            have lc2 := lcell (e0)
            refine region_later (W := W0) (by kernel_rfl) (by kernel_rfl) (Below.refl _ _) ?_
            repeat (go_big_quiet_step (((go_at_call 111; exact later_same (l1In_v _ _ _ _ HV.out _)))))
            refine wpQuiet_nil ?_
            intro W1 hW1
            have HL : Hid (Below W0.heap.size W0 W1) := by obtain ⟨x, rfl⟩ := hW1; exact Lib.hid x.below
            clear hW1 lc0 lc1 lc2
            have HB1 := Lib.hid (bthen HB0.out HL.out HB0.out.size)
            clear hd0 hd1 a0 a1 e0 e1 c0 c1
            go_wp2_with fail
            go_roundw
            case rel => exact ⟨k + 1, by omega, by go_num, HN, HB1⟩
            case measure => simp [intOf]; omega
      · have HN : Hid (Past l t (k + 1)) := past_step hP.out (by rw [tm_of HL0.out]; exact hx) (fun h => absurd h hk2)
        have hd0 : decide ((k : Int) + 1 < (l.length : Int)) = false := decide_eq_false (by omega)
        have lc0 := lcell (a0)
        have lc1 := lcell (a1)
        refine region_later (W := W0) (by kernel_rfl) (by kernel_rfl) (Below.refl _ _) ?_
        repeat (go_big_quiet_step (fail))
        refine wpQuiet_nil ?_
        intro W1 hW1
        have HL : Hid (Below W0.heap.size W0 W1) := by obtain ⟨x, rfl⟩ := hW1; exact Lib.hid x.below
        clear hW1 lc0 lc1
        have HB1 := Lib.hid (bthen HB0.out HL.out HB0.out.size)
        clear hd0 a0 a1 c0 c1
        go_wp2_with fail
        go_roundw
        case rel => exact ⟨k + 1, by omega, by go_num, HN, HB1⟩
        case measure => simp [intOf]; omega
    · obtain rfl : k = l.length := by omega
      have HR : Hid (lvK l t = false) := past_end HA.out hP.out
      go_wp2_with fail
      go_ret3
      exact lv_none HR.out hB.out
end Go.Proofs.Ytdmnkmdlochogaa
