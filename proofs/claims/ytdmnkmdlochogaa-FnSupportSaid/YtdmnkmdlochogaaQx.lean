/-
  Plain facts for laws.FnSupport, and the contract of laws.vSoundings over this translation. Conditions: stated at each theorem.
-/
import Derived.Test.YtdmnkmdlochogaaQl
import Derived.Test.YtdmnkmdlochogaaQk
import Derived.Test.YtdmnkmdlochogaaQw
namespace Go.Proofs.Ytdmnkmdlochogaa
open Go.RowKit

set_option maxRecDepth 20000 in
set_option maxHeartbeats 1600000 in
theorem vS_same (A A' : Option Addr) (n c c' : Nat) (L : List SD) (w : World) (h1 : Sds w w.heap.size A n L) (h2 : Sds w w.heap.size A' n L) (hm : n ≤ maxLen) :
    Calls Try.prog 73 #[.slice A n c, .slice A' n c'] w fun e w' => e = .returned (.bool true) ∧ Below w.heap.size w w' := by
  unfold maxLen at hm
  have H1 := Lib.hid h1
  have H2 := Lib.hid h2
  clear h1 h2
  go_enter Try.func73, Try.ntmps73
  go_wp2_with fail
  go_loopw [5] (fun i wr => ∃ k : Nat, k ≤ n ∧ i = .int .i64 k ∧ Hid (Below w.heap.size w wr)) (fun i _ => n - (intOf i).toNat)
  case atStart => exact ⟨0, Nat.zero_le _, rfl, Lib.hid (Below.refl _ _)⟩
  case round =>
    obtain ⟨k, hk, rfl, hB⟩ := hrel
    by_cases hlt : k < n
    · obtain ⟨b1, o1, v, rfl, hb1, hL1, p0, p1, p2, p3, p4⟩ := (sds_at H1.out hB.out).2 k hlt
      obtain ⟨b2, o2, v', rfl, hb2, hL2, q0, q1, q2, q3, q4⟩ := (sds_at H2.out hB.out).2 k hlt
      obtain rfl : v = v' := Option.some.inj (hL1.symm.trans hL2)
      clear hL1 hL2
      obtain ⟨W0, rfl⟩ : ∃ W : World, W = wr := ⟨_, rfl⟩
      go_wp2_with fail
      have lc0 := lcell (p0)
      have lc1 := lcell (p1)
      have lc2 := lcell (p2)
      have lc3 := lcell (p3)
      have lc4 := lcell (p4)
      have lc5 := lcell (q0)
      have lc6 := lcell (q1)
      have lc7 := lcell (q2)
      have lc8 := lcell (q3)
      have lc9 := lcell (q4)
      refine region_later (W := W0) (by kernel_rfl) (by kernel_rfl) (Below.refl _ _) ?_
      repeat (go_big_quiet_step (fail))
      refine wpQuiet_nil ?_
      intro W1 hW1
      have HL : Hid (Below W0.heap.size W0 W1) := by obtain ⟨x, rfl⟩ := hW1; exact Lib.hid x.below
      clear hW1 lc0 lc1 lc2 lc3 lc4 lc5 lc6 lc7 lc8 lc9
      have HT := Lib.hid (bthen hB.out HL.out hB.out.size)
      clear p0 p1 p2 p3 p4 q0 q1 q2 q3 q4
      go_wp2_with fail
      go_roundw
      case rel => exact ⟨k + 1, by omega, by go_num, HT⟩
      case measure => simp [intOf]; omega
    · obtain rfl : k = n := by omega
      go_wp2_with fail
      go_ret
      exact ⟨rfl, hB.out⟩
/-! ### The mean of the lowered ones -/
theorem mul_in (x y : Int) (X Y : Nat) (hx : x.natAbs ≤ X) (hy : y.natAbs ≤ Y) : -((X * Y : Nat) : Int) ≤ x * y ∧ x * y ≤ ((X * Y : Nat) : Int) := by
  have h : (x * y).natAbs ≤ X * Y := by rw [Int.natAbs_mul]; exact Nat.mul_le_mul hx hy
  omega
theorem gd_pos {s : Int} {n : Nat} (h : 0 < n) : 0 < gd s n := Nat.gcd_pos_of_pos_right _ h
theorem red_eq {s : Int} {n : Nat} (h : 0 < n) : s.tdiv (gd s n : Nat) * n = s * ((n : Int) / (gd s n : Nat)) := by
  obtain ⟨p, hp⟩ : ((gd s n : Nat) : Int) ∣ s := Int.ofNat_dvd_left.2 (Nat.gcd_dvd_left _ _)
  obtain ⟨q, hq⟩ : gd s n ∣ n := Nat.gcd_dvd_right _ _
  have hg := gd_pos (s := s) h
  obtain ⟨g, hgg⟩ : ∃ g, gd s n = g := ⟨_, rfl⟩
  rw [hgg] at hp hq hg ⊢
  subst hp
  have hn : (n : Int) = (g : Int) * q := by rw [hq]; exact Int.natCast_mul _ _
  rw [hn, Int.mul_tdiv_cancel_left p (by omega), Int.mul_ediv_cancel_left _ (by omega), Int.mul_left_comm, Int.mul_assoc]
theorem mn_bd {L : List SD} (h : sdsB L = true) (h0 : 0 < L.length) : (mnN L).natAbs ≤ 240000 ∧ 0 < mnD L ∧ mnD L ≤ 12 := by
  obtain ⟨e1, e2, _⟩ := mn_yes h h0
  have hg := good8_of h
  have hm := hg.max
  obtain ⟨b1, b2⟩ := smK_bd hg (Nat.le_refl L.length)
  rw [e1, e2]
  have hp := gd_pos (s := smK L L.length) h0
  obtain ⟨q, hq⟩ : gd (smK L L.length) L.length ∣ L.length := Nat.gcd_dvd_right _ _
  refine ⟨?_, ?_, ?_⟩
  · rw [Int.natAbs_tdiv]
    refine Nat.le_trans (Nat.div_le_self _ _) ?_
    omega
  · rw [← Int.natCast_ediv]
    have : 0 < L.length / gd (smK L L.length) L.length := Nat.div_pos (Nat.le_of_dvd h0 (Nat.gcd_dvd_right _ _)) hp
    omega
  · rw [← Int.natCast_ediv]
    have : L.length / gd (smK L L.length) L.length ≤ L.length := Nat.div_le_self _ _
    omega
theorem mean_low {L : List SD} {b d : Int} (h : sdsB L = true) (h' : sdsB (lwL L b d) = true) (h0 : 0 < L.length) : mnN (lwL L b d) * mnD L = (mnN L + b * mnD L) * mnD (lwL L b d) := by
  have hl := lwL_len L b d
  obtain ⟨e1, e2, _⟩ := mn_yes h h0
  obtain ⟨f1, f2, _⟩ := mn_yes h' (by rw [hl]; exact h0)
  rw [hl, smK_lw (Nat.le_refl _)] at f1 f2
  refine mean_lw (n := L.length) (S := smK L L.length) (T := smK L L.length + b * L.length) (by omega) ?_ ?_ rfl
  · rw [e1, e2]; exact red_eq h0
  · rw [f1, f2]; exact red_eq h0
theorem lwK_is {L : List SD} {b d : Int} (h : lwK L b d = true) : sdsB L = true ∧ (-30000 ≤ b ∧ b ≤ 30000) ∧ lwR L b d = lwL L b d ∧ sdsB (lwL L b d) = true := by
  have hh := h
  unfold lwK lwG at hh
  simp only [Bool.and_eq_true] at hh
  exact ⟨hh.1.1.1, inB_yes hh.1.1.2, by unfold lwR; rw [h, if_pos rfl], hh.2⟩
theorem lwR_short (L : List SD) (a b : Int) : (lwR L a b).length ≤ L.length := by
  unfold lwR
  split
  · rw [lwL_len]; exact Nat.le_refl _
  · simp
/-! ### The supported depth -/
theorem sdK_is {L : List SD} {x y r : Int} (h : sdK L x y r = true) : sdsB L = true ∧ spS x y = true ∧ inB r 0 1000 = true ∧ sdV L x y r = (suK L (neP x y (r * r)) L.length).1 := by
  have hh := h
  unfold sdK sdG at hh
  simp only [Bool.and_eq_true] at hh
  exact ⟨hh.1.1.1, hh.1.1.2, hh.1.2, (sup_yes hh.1.1.1 hh.1.1.2 hh.1.2).1⟩
theorem sd_spot {v : SD} (h : sdB v = true) : spS v.x v.y = true := by
  obtain ⟨_, a, b, _⟩ := sdB_parts h
  unfold spS
  rw [inB_mk a.1 a.2, inB_mk b.1 b.2]
  rfl
theorem sup_low {L : List SD} {x y r : Int} (h : sdK L x y r = true) {k : Nat} {v : SD} (hv : L[k]? = some v) (hd : sqI v.x v.y x y ≤ r * r) : sdV L x y r ≤ lowS v := by
  obtain ⟨h1, h2, h3, h4⟩ := sdK_is h
  rw [h4]
  have hk := (List.getElem?_eq_some_iff.1 hv).1
  have := (suK_least (P := neP x y (r * r)) hk (by unfold neP; rw [sdAt_at hv]; exact decide_eq_true hd)).2
  rwa [sdAt_at hv] at this
end Go.Proofs.Ytdmnkmdlochogaa
