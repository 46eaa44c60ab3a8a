/-
  Where a tide with a time lies: contracts of impl.tideAt and the search below it over this translation. Conditions: stated at each theorem.
-/
import Derived.Test.YtdmnkmdlochogaaTv
namespace Go.Proofs.Ytdmnkmdlochogaa
open Go.RowKit

/-! ### impl.tideAt -/
theorem cmpT_any (x y t : Int) (w : World) : Calls Try.prog 182 #[.agg #[.int .i64 x, .int .i64 y], .int .i64 t] w fun e w' => e = .returned (.int .i64 (sgn (x - t))) ∧ Below w.heap.size w w' := by
  go_enter Try.func182, Try.ntmps182
  go_wp2_with fail
  refine (cmp_any _ _ _).mono ?_
  rintro e w' ⟨rfl, rfl⟩
  go_wp2_with fail
  go_ret
  exact ⟨rfl, (Below.refl _ _).alloc (Nat.le_refl _) _⟩
theorem cmpT_v (x y t v : Int) (h : sgn (x - t) = v) (w : World) : Calls Try.prog 182 #[.agg #[.int .i64 x, .int .i64 y], .int .i64 t] w fun e w' => e = .returned (.int .i64 v) ∧ Below w.heap.size w w' := h ▸ cmpT_any x y t w
set_option maxRecDepth 100000 in
set_option maxHeartbeats 1600000 in
theorem searchT_any (A : Option Addr) (n c : Nat) (l : List (Int × Int)) (t : Int) (w : World) (hs : Spots w w.heap.size A n l) (hm : n ≤ 1048576) (ha : Asc l) :
    Calls Try.prog 181 #[.slice A n c, .int .i64 t, .func (.func 182) #[] #[]] w (PlacePost l t w) := by
  obtain rfl := hs.1
  have HA := Lib.hid ha
  clear ha
  go_enter Try.func181, Try.ntmps181
  go_wp2_with fail
  go_loopw [9, 10] (fun u v wr => ∃ i j : Nat, i ≤ j ∧ j ≤ l.length ∧ u = .int .i64 i ∧ v = .int .i64 j ∧ Hid ((∀ p, p < i → tmAt l p < t) ∧ ∀ p, j ≤ p → p < l.length → t ≤ tmAt l p) ∧ Hid (Below w.heap.size w wr)) (fun u v _ => (intOf v).toNat - (intOf u).toNat)
  case atStart => exact ⟨0, l.length, Nat.zero_le _, Nat.le_refl _, rfl, rfl, Lib.hid ⟨fun p h => absurd h (by omega), fun p h h' => absurd h (by omega)⟩, Lib.hid (Below.refl _ _)⟩
  case round =>
    obtain ⟨i, j, hij, hj, rfl, rfl, hI, hB⟩ := hrel
    by_cases hlt : i < j
    · obtain ⟨m, e, h1, h2⟩ : ∃ m : Nat, ((i : Int) + j) / 2 = m ∧ i ≤ m ∧ m < j := ⟨(i + j) / 2, by omega, by omega, by omega⟩
      obtain ⟨b, o, x, y, rfl, hb, hl, hc0, hc1⟩ := (hs.on hB.out (Nat.le_refl _)).2 m (by omega)
      have HT := Lib.hid (tm_of hl)
      clear hl
      by_cases hx : x < t
      · have HV := Lib.hid (sgn_neg (n := x - t) (by omega))
        have HN : Hid ((∀ p, p < m + 1 → tmAt l p < t) ∧ ∀ p, j ≤ p → p < l.length → t ≤ tmAt l p) := Lib.hid ⟨fun p hp => by
          rcases Nat.lt_or_ge p m with h | h
          · have := HA.out p m h (by omega); rw [HT.out] at this; omega
          · obtain rfl : p = m := by omega
            rw [HT.out]; exact hx, hI.out.2⟩
        go_wp2_with fail
        refine (cmpT_v x y t _ HV.out _).mono ?_
        rintro e' w1 ⟨rfl, hb⟩
        have HB := Lib.hid (bthen hB.out hb hB.out.size)
        clear hb hc0 hc1
        go_wp2_with fail
        go_roundw
        case rel => exact ⟨m + 1, j, by omega, hj, by go_num, rfl, HN, HB⟩
        case measure => simp [intOf]; omega
      · have HN : Hid ((∀ p, p < i → tmAt l p < t) ∧ ∀ p, m ≤ p → p < l.length → t ≤ tmAt l p) := Lib.hid ⟨hI.out.1, fun p hp hpl => by
          rcases Nat.lt_or_ge m p with h | h
          · have := HA.out m p h hpl; rw [HT.out] at this; omega
          · obtain rfl : p = m := by omega
            rw [HT.out]; omega⟩
        rcases Int.lt_or_eq_of_le (show t ≤ x by omega) with hy | rfl
        · have HV := Lib.hid (sgn_pos (n := x - t) (by omega))
          go_wp2_with fail
          refine (cmpT_v x y t _ HV.out _).mono ?_
          rintro e' w1 ⟨rfl, hb⟩
          have HB := Lib.hid (bthen hB.out hb hB.out.size)
          clear hb hc0 hc1
          go_wp2_with fail
          go_roundw
          case rel => exact ⟨i, m, by omega, by omega, rfl, rfl, HN, HB⟩
          case measure => simp [intOf]; omega
        · have HV := Lib.hid (sgn_zero (n := t - t) (by omega))
          go_wp2_with fail
          refine (cmpT_v t y t _ HV.out _).mono ?_
          rintro e' w1 ⟨rfl, hb⟩
          have HB := Lib.hid (bthen hB.out hb hB.out.size)
          clear hb hc0 hc1
          go_wp2_with fail
          go_roundw
          case rel => exact ⟨i, m, by omega, by omega, rfl, rfl, HN, HB⟩
          case measure => simp [intOf]; omega
    · obtain rfl : i = j := by omega
      have HI : Hid (IsLb l t i) := Lib.hid ⟨hj, hI.out.1, hI.out.2⟩
      clear hI
      by_cases hn : i < l.length
      · obtain ⟨b, o, x, y, rfl, hb, hl, hc0, hc1⟩ := (hs.on hB.out (Nat.le_refl _)).2 i hn
        have HT := Lib.hid (tm_of hl)
        clear hl
        by_cases hx : x = t
        · subst hx
          have HV := Lib.hid (sgn_zero (n := x - x) (by omega))
          have HR : Hid (hitB l x i = true) := decide_eq_true ⟨hn, HT.out⟩
          go_wp2_with fail
          refine (cmpT_v x y x _ HV.out _).mono ?_
          rintro e' w1 ⟨rfl, hb⟩
          have HB := Lib.hid (bthen hB.out hb hB.out.size)
          clear hb hc0 hc1
          go_wp2_with fail
          go_ret2
          exact ⟨i, HI.out, by rw [HR.out]; rfl, HB.out⟩
        · have HR : Hid (hitB l t i = false) := decide_eq_false (fun h => hx (HT.out ▸ h.2))
          rcases Int.lt_or_gt_of_ne hx with hy | hy
          · have HV := Lib.hid (sgn_neg (n := x - t) (by omega))
            clear hx
            go_wp2_with fail
            refine (cmpT_v x y t _ HV.out _).mono ?_
            rintro e' w1 ⟨rfl, hb⟩
            have HB := Lib.hid (bthen hB.out hb hB.out.size)
            clear hb hc0 hc1
            go_wp2_with fail
            go_ret2
            exact ⟨i, HI.out, by rw [HR.out]; rfl, HB.out⟩
          · have HV := Lib.hid (sgn_pos (n := x - t) (by omega))
            clear hx
            go_wp2_with fail
            refine (cmpT_v x y t _ HV.out _).mono ?_
            rintro e' w1 ⟨rfl, hb⟩
            have HB := Lib.hid (bthen hB.out hb hB.out.size)
            clear hb hc0 hc1
            go_wp2_with fail
            go_ret2
            exact ⟨i, HI.out, by rw [HR.out]; rfl, HB.out⟩
      · have HR : Hid (hitB l t i = false) := decide_eq_false (fun h => hn h.1)
        go_wp2_with fail
        go_ret2
        exact ⟨i, HI.out, by rw [HR.out]; rfl, hB.out⟩
theorem tideAt_any (A : Option Addr) (n c : Nat) (l : List (Int × Int)) (t : Int) (w : World) (hs : Spots w w.heap.size A n l) (hm : n ≤ 1048576) (ha : Asc l) :
    Calls Try.prog 166 #[.slice A n c, .int .i64 t] w (PlacePost l t w) := by
  have H := Lib.hid (searchT_any A n c l t w hs hm ha)
  clear hs ha
  go_enter Try.func166, Try.ntmps166
  go_wp2_with fail
  refine H.out.mono ?_
  rintro e w1 ⟨i, hi, rfl, hb⟩
  have HI := Lib.hid hi
  have HB := Lib.hid hb
  clear hi hb
  go_wp2_with fail
  go_ret2
  exact ⟨i, HI.out, rfl, HB.out⟩
end Go.Proofs.Ytdmnkmdlochogaa
