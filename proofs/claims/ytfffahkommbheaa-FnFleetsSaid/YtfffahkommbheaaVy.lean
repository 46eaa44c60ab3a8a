/-
  The shallowest craft: contracts of impl.ShallowestCraft, spec.ShallowestCraft over this translation. Conditions: stated at each theorem.
-/
import Derived.Test.YtfffahkommbheaaVt
namespace Go.Proofs.Ytfffahkommbheaa
open Go.RowKit

set_option maxRecDepth 20000 in
set_option maxHeartbeats 3200000 in
theorem shal_impl (A : Option Addr) (n c : Nat) (L : List CC) (w : World) (hs : Crafts w w.heap.size A n L) (hm : n ≤ maxLen) (hcap : n ≤ c) :
    Calls Try.prog 24 #[.slice A n c] w (ShPost L w) := by
  obtain rfl := hs.1
  have HS := Lib.hid hs
  clear hs
  rcases ha : areC L with _ | _
  · have HA := Lib.hid ha
    clear ha
    go_enter Try.func24, Try.ntmps24
    go_wp2_with fail
    refine (areC_v _ _ _ L _ HA.out _ HS.out hm hcap).mono ?_
    rintro e w1 ⟨rfl, hb⟩
    have HB1 := Lib.hid hb
    clear hb
    go_wp2_with fail
    go_ret2
    exact sh_no (shK_1 HA.out) HB1.out
  have HA := Lib.hid ha
  have hl6 := (areC_parts ha).1
  clear ha
  by_cases h0 : L.length = 0
  · have HK := Lib.hid (shK_2 h0)
    have HZ := Lib.hid h0
    clear h0
    go_enter Try.func24, Try.ntmps24
    go_wp2_with fail
    refine (areC_v _ _ _ L _ HA.out _ HS.out hm hcap).mono ?_
    rintro e w1 ⟨rfl, hb⟩
    have HB1 := Lib.hid hb
    clear hb
    have h0 := HZ.out
    go_wp2_with fail
    go_ret2
    exact sh_no HK.out HB1.out
  have hz : (((L.length : Nat) : Int) == 0) = false := beq_eq_false_iff_ne.2 (by omega)
  have HK := Lib.hid (shK_3 HA.out (by omega))
  go_enter Try.func24, Try.ntmps24
  go_wp2_with fail
  refine (areC_v _ _ _ L _ HA.out _ HS.out hm hcap).mono ?_
  rintro e w1 ⟨rfl, hb⟩
  have HB1 := Lib.hid hb
  clear hb
  go_wp2_with fail
  refine (minC_any _ _ _ L _ (crafts_at HS.out HB1.out) (by omega) (by omega)).mono ?_
  rintro e w2 ⟨u, hu, rfl, hb⟩
  have HB2 := Lib.hid (bthen HB1.out hb HB1.out.size)
  have HB3 := Lib.hid (HB2.out.alloc HB2.out.size (.cells #[.int .i64 u.id, .string u.nm, .int .i64 u.dr, .int .i64 u.ah, .int .i64 u.be, .int .i64 u.sp, .int .i64 u.fu] 31))
  clear hb
  go_wp2_with fail
  go_ret2
  exact sh_yes HK.out hu.out HB3.out
set_option maxRecDepth 20000 in
set_option maxHeartbeats 3200000 in
theorem shal_spec (A : Option Addr) (n c : Nat) (L : List CC) (w : World) (hs : Crafts w w.heap.size A n L) (hm : n ≤ maxLen) :
    Calls Try.prog 30 #[.slice A n c] w (ShPost L w) := by
  obtain rfl := hs.1
  have HS := Lib.hid hs
  clear hs
  rcases ha : areC L with _ | _
  · have HA := Lib.hid ha
    clear ha
    go_enter Try.func30, Try.ntmps30
    go_wp2_with fail
    refine (goodC_v _ _ _ L _ HA.out _ HS.out hm).mono ?_
    rintro e w1 ⟨rfl, hb⟩
    have HB1 := Lib.hid hb
    clear hb
    go_wp2_with fail
    go_ret2
    exact sh_no (shK_1 HA.out) HB1.out
  have HA := Lib.hid ha
  have hl6 := (areC_parts ha).1
  clear ha
  by_cases h0 : L.length = 0
  · have HK := Lib.hid (shK_2 h0)
    have HZ := Lib.hid h0
    clear h0
    go_enter Try.func30, Try.ntmps30
    go_wp2_with fail
    refine (goodC_v _ _ _ L _ HA.out _ HS.out hm).mono ?_
    rintro e w1 ⟨rfl, hb⟩
    have HB1 := Lib.hid hb
    clear hb
    have h0 := HZ.out
    go_wp2_with fail
    go_ret2
    exact sh_no HK.out HB1.out
  have hz : (((L.length : Nat) : Int) == 0) = false := beq_eq_false_iff_ne.2 (by omega)
  have HK := Lib.hid (shK_3 HA.out (by omega))
  go_enter Try.func30, Try.ntmps30
  go_wp2_with fail
  refine (goodC_v _ _ _ L _ HA.out _ HS.out hm).mono ?_
  rintro e w1 ⟨rfl, hb⟩
  have HB1 := Lib.hid hb
  clear hb
  obtain ⟨b, o, v, rfl, hbl, hL, hn, c0, c1, c2, c3, c4, c5, c6⟩ := (crafts_at HS.out HB1.out).2 0 (by omega)
  have HU : Hid (v = shS L (1 - 1)) := Lib.hid (cOf_at hL).symm
  obtain ⟨W0, hW0⟩ : ∃ W0, W0 = w1.alloc (.cells #[.int .i64 v.id, .string v.nm, .int .i64 v.dr, .int .i64 v.ah, .int .i64 v.be, .int .i64 v.sp, .int .i64 v.fu] 31) := ⟨_, rfl⟩
  have HW : Hid (Below w1.heap.size w1 W0 ∧ Has W0 w1.heap.size [.int .i64 v.id, .string v.nm, .int .i64 v.dr, .int .i64 v.ah, .int .i64 v.be, .int .i64 v.sp, .int .i64 v.fu]) := by rw [hW0]; exact box1 (Below.refl _ _)
  have HE := Lib.hid hW0
  have HB0 := Lib.hid (bthen HB1.out HW.out.1 HB1.out.size)
  have HM0 := Lib.hid HW.out.2
  clear hL hW0
  simp only [Nat.zero_mul, Nat.add_zero] at c0 c1 c2 c3 c4 c5 c6
  go_wp2_with fail
  rw [← HE.out]
  clear c0 c1 c2 c3 c4 c5 c6
  go_loopw [5] (fun i wr => ∃ (k : Nat) (u : CC), 1 ≤ k ∧ k ≤ L.length ∧ i = .int .i64 k ∧ Hid (u = shS L (k - 1)) ∧ Hid (Has wr w1.heap.size [.int .i64 u.id, .string u.nm, .int .i64 u.dr, .int .i64 u.ah, .int .i64 u.be, .int .i64 u.sp, .int .i64 u.fu]) ∧ Hid (Below w.heap.size w wr)) (fun i _ => L.length - (intOf i).toNat)
  case atStart => exact ⟨1, v, Nat.le_refl _, by omega, rfl, HU, HM0, HB0⟩
  case round =>
    obtain ⟨k, u, hk1, hk, rfl, hu, hM, hB⟩ := hrel
    obtain ⟨W1, rfl⟩ : ∃ W : World, W = wr := ⟨_, rfl⟩
    by_cases hlt : k < L.length
    · obtain ⟨b', o', x, hA, hbl', hL, hn', c0, c1, c2, c3, c4, c5, c6⟩ := (crafts_at HS.out hB.out).2 k hlt
      obtain ⟨rfl, rfl⟩ : b = b' ∧ o = o' := by injection hA with h; injection h with h h'; exact ⟨h, h'⟩
      have HX : Hid (L[(k - 1) + 1]? = some x) := by unfold Hid; rw [show k - 1 + 1 = k by omega]; exact hL
      have a2 := hM.out.at_ 2 _ rfl
      clear hA hL hn'
      by_cases hx : x.dr < u.dr
      · have hd : decide (x.dr < u.dr) = true := decide_eq_true hx
        have HN : Hid (x = shS L (k + 1 - 1)) := Lib.hid (by have := shS_yes HX.out hu.out hx; rwa [show k - 1 + 1 = k + 1 - 1 by omega] at this)
        go_wp2_with fail
        have lc0 := lcell (a2)
        have lc1 := lcell (c2)
        refine region_later (W := W1) (by kernel_rfl) (by kernel_rfl) (Below.refl _ _) ?_
        repeat (go_big_quiet_step (fail))
        refine wpQuiet_nil ?_
        intro W2 hW1
        have HL : Hid (Below W1.heap.size W1 W2) := by obtain ⟨x, rfl⟩ := hW1; exact Lib.hid x.below
        clear hW1 lc0 lc1
        have HB2 := Lib.hid (bthen hB.out HL.out hB.out.size)
        have HM2 := Lib.hid (hM.out.next HL.out)
        clear a2
        have a0 := HM2.out.at_ 0 _ rfl
        have a1 := HM2.out.at_ 1 _ rfl
        have a2 := HM2.out.at_ 2 _ rfl
        have a3 := HM2.out.at_ 3 _ rfl
        have a4 := HM2.out.at_ 4 _ rfl
        have a5 := HM2.out.at_ 5 _ rfl
        have a6 := HM2.out.at_ 6 _ rfl
        have f0 := HM2.out.free 0
        have f1 := HM2.out.free 1
        have f2 := HM2.out.free 2
        have f3 := HM2.out.free 3
        have f4 := HM2.out.free 4
        have f5 := HM2.out.free 5
        have f6 := HM2.out.free 6
        have d0 := cell_next HL.out c0
        have d1 := cell_next HL.out c1
        have d2 := cell_next HL.out c2
        have d3 := cell_next HL.out c3
        have d4 := cell_next HL.out c4
        have d5 := cell_next HL.out c5
        have d6 := cell_next HL.out c6
        clear c0 c1 c2 c3 c4 c5 c6
        have HM3 := Lib.hid (HM2.out.lay rfl x)
        have HB3 := Lib.hid (setL_below [.int .i64 x.id, .string x.nm, .int .i64 x.dr, .int .i64 x.ah, .int .i64 x.be, .int .i64 x.sp, .int .i64 x.fu] HB2.out HB1.out.size 0)
        go_wp2_with fail
        go_roundw
        case rel => exact ⟨k + 1, x, by omega, by omega, by go_num, HN, HM3, HB3⟩
        case measure => simp [intOf]; omega
      · have hd : decide (x.dr < u.dr) = false := decide_eq_false hx
        have HN : Hid (u = shS L (k + 1 - 1)) := Lib.hid (by have := shS_no HX.out hu.out hx; rwa [show k - 1 + 1 = k + 1 - 1 by omega] at this)
        go_wp2_with fail
        have lc0 := lcell (a2)
        have lc1 := lcell (c2)
        refine region_later (W := W1) (by kernel_rfl) (by kernel_rfl) (Below.refl _ _) ?_
        repeat (go_big_quiet_step (fail))
        refine wpQuiet_nil ?_
        intro W2 hW1
        have HL : Hid (Below W1.heap.size W1 W2) := by obtain ⟨x, rfl⟩ := hW1; exact Lib.hid x.below
        clear hW1 lc0 lc1
        have HB2 := Lib.hid (bthen hB.out HL.out hB.out.size)
        have HM2 := Lib.hid (hM.out.next HL.out)
        clear a2 c0 c1 c2 c3 c4 c5 c6
        go_wp2_with fail
        go_roundw
        case rel => exact ⟨k + 1, u, by omega, by omega, by go_num, HN, HM2, HB2⟩
        case measure => simp [intOf]; omega
    · obtain rfl : k = L.length := by omega
      have a0 := hM.out.at_ 0 _ rfl
      go_wp2_with fail
      go_ret2
      exact sh_yes HK.out hu.out hB.out
end Go.Proofs.Ytfffahkommbheaa
