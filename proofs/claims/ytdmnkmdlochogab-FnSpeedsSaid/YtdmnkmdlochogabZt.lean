/-
  Speeds, thicknesses, travels: contracts of spec.l7Speed, l7Thick, l7Travel over this translation. Conditions: stated at each theorem.
-/
import Derived.Test.YtdmnkmdlochogabZv
import Derived.Test.YtdmnkmdlochogabRed
namespace Go.Proofs.Ytdmnkmdlochogab
open Go.RowKit
set_option linter.unusedVariables false

set_option maxHeartbeats 1600000 in
theorem speed_spec (id tm x0 y0 d : Int) (A : Option Addr) (n c : Nat) (l : List (Int × Int)) (w : World) (hs : Spots w w.heap.size A n l) (hm : n ≤ maxLen) :
    Calls Try.prog 136 #[.agg #[.int .i64 id, .int .i64 tm, .int .i64 x0, .int .i64 y0, .slice A n c], .int .i64 d] w fun e w' => e = .returned (.int .i64 (spOf l d)) ∧ Below w.heap.size w w' := by
  obtain rfl := hs.1
  have HS := Lib.hid hs
  clear hs
  unfold maxLen at hm
  obtain ⟨W0, hW0⟩ : ∃ W0, W0 = w.alloc (.cells #[.int .i64 id, .int .i64 tm, .int .i64 x0, .int .i64 y0, .slice A l.length c] 64) := ⟨_, rfl⟩
  have HW : Hid (Below w.heap.size w W0 ∧ Has W0 w.heap.size [.int .i64 id, .int .i64 tm, .int .i64 x0, .int .i64 y0, .slice A l.length c]) := by rw [hW0]; exact box1 (Below.refl _ _)
  have HE := Lib.hid hW0
  clear hW0
  have c4 := HW.out.2.at_ 4 _ rfl
  have HS0 := Lib.hid (HS.out.on HW.out.1 (Nat.le_refl _))
  go_enter Try.func136, Try.ntmps136
  go_wp2_with fail
  rw [← HE.out]
  go_loop [5, 6] (fun s i => ∃ k : Nat, k ≤ l.length ∧ i = .int .i64 k ∧ s = .int .i64 (spdK l d k)) (fun _ i => l.length - (intOf i).toNat)
  case atStart => exact ⟨0, Nat.zero_le _, rfl, rfl⟩
  case round =>
    obtain ⟨k, hk, rfl, rfl⟩ := hrel
    by_cases hlt : k < l.length
    · obtain ⟨b, o, x, y, rfl, hbl, hlk, hc0, hc1⟩ := HS0.out.2 k hlt
      by_cases hd : x ≤ d
      · have HR : Hid (spdK l d (k + 1) = y) := by unfold Hid; rw [spdK, depAt_at hlk, spdAt_at hlk, if_pos hd]
        clear hlk
        go_wp2_with fail
        go_round
        case rel => exact ⟨k + 1, by omega, by go_num, by rw [HR.out]⟩
        case measure => simp [intOf]; omega
      · have HR : Hid (spdK l d (k + 1) = spdK l d k) := by unfold Hid; rw [spdK, depAt_at hlk, if_neg hd]
        clear hlk
        go_wp2_with fail
        go_round
        case rel => exact ⟨k + 1, by omega, by go_num, by rw [HR.out]⟩
        case measure => simp [intOf]; omega
    · obtain rfl : k = l.length := by omega
      go_wp2_with fail
      go_ret
      exact ⟨rfl, HW.out.1⟩
theorem speed_v (id tm x0 y0 d : Int) (A : Option Addr) (n c : Nat) (l : List (Int × Int)) (v : Int) (h : spOf l d = v) (w : World) (hs : Spots w w.heap.size A n l) (hm : n ≤ maxLen) :
    Calls Try.prog 136 #[.agg #[.int .i64 id, .int .i64 tm, .int .i64 x0, .int .i64 y0, .slice A n c], .int .i64 d] w fun e w' => e = .returned (.int .i64 v) ∧ Below w.heap.size w w' := h ▸ speed_spec id tm x0 y0 d A n c l w hs hm
set_option maxHeartbeats 1600000 in
theorem thick_spec (id tm x0 y0 d : Int) (A : Option Addr) (n c i : Nat) (l : List (Int × Int)) (v : Int) (hv : thc l i d = v) (w : World) (hs : Spots w w.heap.size A n l) (hl : Lays l) (hi : i < l.length) (hd : 0 ≤ d) (hd' : d ≤ 20001) :
    Calls Try.prog 131 #[.agg #[.int .i64 id, .int .i64 tm, .int .i64 x0, .int .i64 y0, .slice A n c], .int .i64 i, .int .i64 d] w fun e w' => e = .returned (.int .i64 v) ∧ Below w.heap.size w w' := by
  obtain rfl := hs.1
  have h8 := hl.max
  obtain ⟨W0, hW0⟩ : ∃ W0, W0 = w.alloc (.cells #[.int .i64 id, .int .i64 tm, .int .i64 x0, .int .i64 y0, .slice A l.length c] 64) := ⟨_, rfl⟩
  have HW : Hid (Below w.heap.size w W0 ∧ Has W0 w.heap.size [.int .i64 id, .int .i64 tm, .int .i64 x0, .int .i64 y0, .slice A l.length c]) := by rw [hW0]; exact box1 (Below.refl _ _)
  have c4 := HW.out.2.at_ 4 _ rfl
  have hS0 := hs.on HW.out.1 (Nat.le_refl _)
  obtain ⟨b, o, x, y, rfl, hbl, hlk, hc0, hc1⟩ := hS0.2 i hi
  have hx := hl.dep i hi
  rw [depAt_at hlk] at hx
  obtain ⟨hx1, hx2⟩ := hx
  by_cases hn : i + 1 < l.length
  · obtain ⟨b', o', x', y', hA', hb', hl', d0, d1⟩ := hS0.2 (i + 1) hn
    obtain ⟨rfl, rfl⟩ : b = b' ∧ o = o' := by injection hA' with h; injection h with h h'; exact ⟨h, h'⟩
    have hx' := hl.dep (i + 1) hn
    rw [depAt_at hl'] at hx'
    obtain ⟨hx3, hx4⟩ := hx'
    have HR : Hid (max 0 (min d x' - x) = v) := by unfold Hid; rw [← hv, thc, endAt, if_pos hn, depAt_at hlk, depAt_at hl']
    clear hlk hl' hA' hS0 hv
    subst hW0
    go_enter Try.func131, Try.ntmps131
    go_wp2_with fail
    refine (least_any _ _ _).mono ?_
    rintro e w' ⟨rfl, rfl⟩
    go_wp2_with fail
    refine (most_any _ _ _).mono ?_
    rintro e w' ⟨rfl, rfl⟩
    go_wp2_with fail
    go_ret
    exact ⟨ret_int HR.out, HW.out.1⟩
  · have HR : Hid (max 0 (d - x) = v) := by unfold Hid; rw [← hv, thc, endAt, if_neg hn, depAt_at hlk]
    clear hlk hS0 hv
    subst hW0
    go_enter Try.func131, Try.ntmps131
    go_wp2_with fail
    refine (most_any _ _ _).mono ?_
    rintro e w' ⟨rfl, rfl⟩
    go_wp2_with fail
    go_ret
    exact ⟨ret_int HR.out, HW.out.1⟩
end Go.Proofs.Ytdmnkmdlochogab
