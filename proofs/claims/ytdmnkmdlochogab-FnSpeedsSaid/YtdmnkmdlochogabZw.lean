/-
  Searches by halves: contracts of sort.Search with the functions of impl.speedOf, DepthFor, CastAt, and of impl.speedOf over this translation. Conditions: stated at each theorem.
-/
import Derived.Test.YtdmnkmdlochogabZu
import Derived.Test.YtdmnkmdlochogabZo
namespace Go.Proofs.Ytdmnkmdlochogab
open Go.RowKit
set_option linter.unusedVariables false

theorem dep_exN {l : List (Int × Int)} (h : Lays l) {m : Int} (hm : 0 ≤ m) (n : Nat) : ∃ d : Nat, d ≤ n ∧ trv l d ≤ m ∧ ∀ e : Nat, d < e → e ≤ n → m < trv l e := by
  induction n with
  | zero => exact ⟨0, Nat.le_refl _, by have := trv_zero h; simp only [Int.natCast_zero] at *; omega, fun e a b => by omega⟩
  | succ n ih =>
    by_cases hc : trv l ((n + 1 : Nat) : Int) ≤ m
    · exact ⟨n + 1, Nat.le_refl _, hc, fun e a b => by omega⟩
    · obtain ⟨d, h1, h2, h3⟩ := ih
      refine ⟨d, by omega, h2, fun e a b => ?_⟩
      rcases Nat.lt_or_ge e (n + 1) with c | c
      · exact h3 e a (by omega)
      · obtain rfl : e = n + 1 := by omega
        omega
theorem dep_ex {l : List (Int × Int)} (h : Lays l) {m : Int} (hm : 0 ≤ m) : ∃ d : Nat, d ≤ 20000 ∧ depF l m = d ∧ IsDep l m d ∧ (∀ i : Nat, i < d → decide (m < trv l ((i : Int) + 1)) = false) ∧ (∀ i : Nat, d ≤ i → i < 20000 → decide (m < trv l ((i : Int) + 1)) = true) := by
  obtain ⟨d, h1, h2, h3⟩ := dep_exN h hm 20000
  have hd : IsDep l m d := ⟨by omega, by omega, h2, fun e a b => by
    have := h3 e.toNat (by omega) (by omega)
    rwa [show ((e.toNat : Nat) : Int) = e by omega] at this⟩
  refine ⟨d, h1, depF_is hd, hd, fun i hi => decide_eq_false (by have := trv_mono h (d := (i : Int) + 1) (e := d) (by omega); omega), fun i a b => decide_eq_true (by have := h3 (i + 1) (by omega) (by omega); simpa using this)⟩
theorem sp_ex {l : List (Int × Int)} (h : Lays l) {d : Int} (hd : 0 ≤ d) : ∃ k : Nat, k < l.length ∧ spOf l d = spdAt l k ∧ (∀ i : Nat, i < k + 1 → decide (d < depAt l i) = false) ∧ (∀ i : Nat, k + 1 ≤ i → i < l.length → decide (d < depAt l i) = true) := by
  obtain ⟨k, hk, h1, h2⟩ := lay_ex h hd
  refine ⟨k, hk, spOf_hit h hk h1 h2, fun i hi => decide_eq_false (by have := h.le (p := i) (q := k) (by omega) hk; omega), fun i a b => decide_eq_true (by have := h.le (p := k + 1) (q := i) a b; have := h2 (by omega); omega)⟩
set_option maxHeartbeats 1600000 in
theorem search_sp (b1 b2 n r : Nat) (P : Nat → Bool) (w : World) (hn : n ≤ 1048576) (hr : r ≤ n) (h1 : ∀ i, i < r → P i = false) (h2 : ∀ i, r ≤ i → i < n → P i = true)
    (hf : ∀ (W : World) (i : Nat), Below w.heap.size w W → i < n → Calls Try.prog 178 #[.int .i64 i, .pointer (some ⟨b1, 0, none⟩), .pointer (some ⟨b2, 0, none⟩)] W fun e w' => e = .returned (.bool (P i)) ∧ Below W.heap.size W w') :
    Calls Try.prog 140 #[.int .i64 n, .func (.func 178) #[] #[.pointer (some ⟨b1, 0, none⟩), .pointer (some ⟨b2, 0, none⟩)]] w fun e w' => e = .returned (.int .i64 r) ∧ Below w.heap.size w w' := by
  have HF := Lib.hid hf
  have HP := Lib.hid (And.intro h1 h2)
  clear hf h1 h2
  go_enter Try.func140, Try.ntmps140
  go_wp2_with fail
  go_loopw [5, 6] (fun u v wr => ∃ i j : Nat, i ≤ r ∧ r ≤ j ∧ j ≤ n ∧ u = .int .i64 i ∧ v = .int .i64 j ∧ Hid (Below w.heap.size w wr)) (fun u v _ => (intOf v).toNat - (intOf u).toNat)
  case atStart => exact ⟨0, n, Nat.zero_le _, hr, Nat.le_refl _, rfl, rfl, Lib.hid (Below.refl _ _)⟩
  case round =>
    obtain ⟨i, j, hi, hj, hjn, rfl, rfl, hB⟩ := hrel
    by_cases hlt : i < j
    · obtain ⟨m, e, q1, q2⟩ : ∃ m : Nat, ((i : Int) + j) / 2 = m ∧ i ≤ m ∧ m < j := ⟨(i + j) / 2, by omega, by omega, by omega⟩
      have HC := Lib.hid (HF.out _ m hB.out (by omega))
      rcases hp : P m with _ | _
      · have hmr : m < r := by
          rcases Nat.lt_or_ge m r with h | h
          · exact h
          · have := HP.out.2 m h (by omega); rw [hp] at this; cases this
        have HQ := Lib.hid hp
        clear hp
        go_wp2_with fail
        refine HC.out.mono ?_
        rintro e' w1 ⟨he, hb⟩
        rw [HQ.out] at he
        subst he
        have HB := Lib.hid (bthen hB.out hb hB.out.size)
        clear hb
        go_wp2_with fail
        go_roundw
        case rel => exact ⟨m + 1, j, by omega, hj, hjn, by go_num, rfl, HB⟩
        case measure => simp [intOf]; omega
      · have hmr : r ≤ m := by
          rcases Nat.lt_or_ge m r with h | h
          · have := HP.out.1 m h; rw [hp] at this; cases this
          · exact h
        have HQ := Lib.hid hp
        clear hp
        go_wp2_with fail
        refine HC.out.mono ?_
        rintro e' w1 ⟨he, hb⟩
        rw [HQ.out] at he
        subst he
        have HB := Lib.hid (bthen hB.out hb hB.out.size)
        clear hb
        go_wp2_with fail
        go_roundw
        case rel => exact ⟨i, m, hi, hmr, by omega, rfl, by go_num, HB⟩
        case measure => simp [intOf]; omega
    · obtain rfl : i = r := by omega
      go_wp2_with fail
      go_ret
      exact ⟨rfl, hB.out⟩
set_option maxHeartbeats 1600000 in
theorem search_ca (b1 b2 n r : Nat) (P : Nat → Bool) (w : World) (hn : n ≤ 1048576) (hr : r ≤ n) (h1 : ∀ i, i < r → P i = false) (h2 : ∀ i, r ≤ i → i < n → P i = true)
    (hf : ∀ (W : World) (i : Nat), Below w.heap.size w W → i < n → Calls Try.prog 141 #[.int .i64 i, .pointer (some ⟨b1, 0, none⟩), .pointer (some ⟨b2, 0, none⟩)] W fun e w' => e = .returned (.bool (P i)) ∧ Below W.heap.size W w') :
    Calls Try.prog 140 #[.int .i64 n, .func (.func 141) #[] #[.pointer (some ⟨b1, 0, none⟩), .pointer (some ⟨b2, 0, none⟩)]] w fun e w' => e = .returned (.int .i64 r) ∧ Below w.heap.size w w' := by
  have HF := Lib.hid hf
  have HP := Lib.hid (And.intro h1 h2)
  clear hf h1 h2
  go_enter Try.func140, Try.ntmps140
  go_wp2_with fail
  go_loopw [5, 6] (fun u v wr => ∃ i j : Nat, i ≤ r ∧ r ≤ j ∧ j ≤ n ∧ u = .int .i64 i ∧ v = .int .i64 j ∧ Hid (Below w.heap.size w wr)) (fun u v _ => (intOf v).toNat - (intOf u).toNat)
  case atStart => exact ⟨0, n, Nat.zero_le _, hr, Nat.le_refl _, rfl, rfl, Lib.hid (Below.refl _ _)⟩
  case round =>
    obtain ⟨i, j, hi, hj, hjn, rfl, rfl, hB⟩ := hrel
    by_cases hlt : i < j
    · obtain ⟨m, e, q1, q2⟩ : ∃ m : Nat, ((i : Int) + j) / 2 = m ∧ i ≤ m ∧ m < j := ⟨(i + j) / 2, by omega, by omega, by omega⟩
      have HC := Lib.hid (HF.out _ m hB.out (by omega))
      rcases hp : P m with _ | _
      · have hmr : m < r := by
          rcases Nat.lt_or_ge m r with h | h
          · exact h
          · have := HP.out.2 m h (by omega); rw [hp] at this; cases this
        have HQ := Lib.hid hp
        clear hp
        go_wp2_with fail
        refine HC.out.mono ?_
        rintro e' w1 ⟨he, hb⟩
        rw [HQ.out] at he
        subst he
        have HB := Lib.hid (bthen hB.out hb hB.out.size)
        clear hb
        go_wp2_with fail
        go_roundw
        case rel => exact ⟨m + 1, j, by omega, hj, hjn, by go_num, rfl, HB⟩
        case measure => simp [intOf]; omega
      · have hmr : r ≤ m := by
          rcases Nat.lt_or_ge m r with h | h
          · have := HP.out.1 m h; rw [hp] at this; cases this
          · exact h
        have HQ := Lib.hid hp
        clear hp
        go_wp2_with fail
        refine HC.out.mono ?_
        rintro e' w1 ⟨he, hb⟩
        rw [HQ.out] at he
        subst he
        have HB := Lib.hid (bthen hB.out hb hB.out.size)
        clear hb
        go_wp2_with fail
        go_roundw
        case rel => exact ⟨i, m, hi, hmr, by omega, rfl, by go_num, HB⟩
        case measure => simp [intOf]; omega
    · obtain rfl : i = r := by omega
      go_wp2_with fail
      go_ret
      exact ⟨rfl, hB.out⟩
/-! ### impl.speedOf -/
set_option maxHeartbeats 800000 in
theorem spTest_any (b1 b2 : Nat) (A : Option Addr) (c i : Nat) (l : List (Int × Int)) (d : Int) (w : World) (h1 : w.cell? ⟨b1, 0, none⟩ = some (.slice A l.length c)) (h2 : w.cell? ⟨b2, 0, none⟩ = some (.int .i64 d)) (hs : Spots w w.heap.size A l.length l) (hi : i < l.length) (h8 : l.length ≤ 8) :
    Calls Try.prog 178 #[.int .i64 i, .pointer (some ⟨b1, 0, none⟩), .pointer (some ⟨b2, 0, none⟩)] w fun e w' => e = .returned (.bool (decide (d < depAt l i))) ∧ Below w.heap.size w w' := by
  obtain ⟨b, o, x, y, rfl, hbl, hlk, hc0, hc1⟩ := hs.2 i hi
  rw [depAt_at hlk]
  clear hs hlk
  go_enter Try.func178, Try.ntmps178
  go_wp2_with fail
  have lc0 := lcell (h1)
  have lc1 := lcell (h2)
  have lc2 := lcell (hc0)
  refine region_later (W := w) (by kernel_rfl) (by kernel_rfl) (Below.refl _ _) ?_
  repeat (go_big_quiet_step (fail))
  refine wpQuiet_nil ?_
  intro W1 hW1
  have HL : Hid (Below w.heap.size w W1) := by obtain ⟨x, rfl⟩ := hW1; exact Lib.hid x.below
  clear hW1 lc0 lc1 lc2
  go_wp2_with fail
  go_ret
  exact ⟨rfl, HL.out⟩
set_option maxHeartbeats 800000 in
theorem speed_impl (A : Option Addr) (n c : Nat) (l : List (Int × Int)) (d : Int) (v : Int) (hv : spOf l d = v) (w : World) (hs : Spots w w.heap.size A n l) (hl : Lays l) (hd : 0 ≤ d) :
    Calls Try.prog 135 #[.slice A n c, .int .i64 d] w fun e w' => e = .returned (.int .i64 v) ∧ Below w.heap.size w w' := by
  obtain rfl := hs.1
  have h8 := hl.max
  obtain ⟨k, hk, he, hp1, hp2⟩ := sp_ex hl hd
  obtain ⟨W0, hW0⟩ : ∃ W0, W0 = (w.alloc (.cells #[.slice A l.length c] 62)).alloc (.cells #[.int .i64 d] 3) := ⟨_, rfl⟩
  have HW : Hid (Below w.heap.size w W0 ∧ Has W0 w.heap.size [.slice A l.length c] ∧ Has W0 (w.heap.size + 1) [.int .i64 d]) := by rw [hW0]; exact box2 (Below.refl _ _)
  have HS0 := Lib.hid (spots_at hs HW.out.1)
  have HS := Lib.hid (search_sp w.heap.size (w.heap.size + 1) l.length (k + 1) (fun i => decide (d < depAt l i)) W0 (by omega) (by omega) hp1 hp2 (fun W i hb hi =>
    spTest_any _ _ A c i l d W ((hb.cell (p := ⟨w.heap.size, 0, none⟩) HW.out.2.1.1).trans (HW.out.2.1.at_ 0 _ rfl)) ((hb.cell (p := ⟨w.heap.size + 1, 0, none⟩) HW.out.2.2.1).trans (HW.out.2.2.at_ 0 _ rfl)) (spots_at HS0.out hb) hi h8))
  have HV : Hid (spdAt l k = v) := Lib.hid (he.symm.trans hv)
  have HE := Lib.hid hW0
  clear hW0 hp1 hp2 hv he hs
  go_enter Try.func135, Try.ntmps135
  go_wp2_with fail
  rw [← HE.out]
  refine HS.out.mono ?_
  rintro e w1 ⟨rfl, hb⟩
  have HB1 := Lib.hid (bthen HW.out.1 hb HW.out.1.size)
  have c0 := (HW.out.2.1.next hb).at_ 0 _ rfl
  obtain ⟨b, o, x, y, rfl, hbl, hlk, hc0, hc1⟩ := (spots_at HS0.out hb).2 k hk
  have hy : y = v := by rw [← HV.out, spdAt_at hlk]
  subst hy
  clear hb hlk
  go_wp2_with fail
  go_ret
  exact ⟨rfl, HB1.out⟩
/-! ### The search of impl.CastAt -/
set_option maxHeartbeats 800000 in
theorem caTest_any (b1 b2 : Nat) (A : Option Addr) (c i : Nat) (L : List KC) (t : Int) (w : World) (h1 : w.cell? ⟨b1, 0, none⟩ = some (.slice A L.length c)) (h2 : w.cell? ⟨b2, 0, none⟩ = some (.int .i64 t)) (hs : Casts w w.heap.size A L.length L) (hi : i < L.length) (h6 : L.length ≤ 6) :
    Calls Try.prog 141 #[.int .i64 i, .pointer (some ⟨b1, 0, none⟩), .pointer (some ⟨b2, 0, none⟩)] w fun e w' => e = .returned (.bool (decide (t < (kcAt L i).tm))) ∧ Below w.heap.size w w' := by
  obtain ⟨b, o, id, tm, x, y, l, A', c', rfl, hbl, hlk, hc0, hc1, hc2, hc3, hc4, hsp, hll⟩ := hs.2 i hi
  rw [kcAt_at hlk]
  clear hs hlk hsp
  go_enter Try.func141, Try.ntmps141
  go_wp2_with fail
  have lc0 := lcell (h1)
  have lc1 := lcell (h2)
  have lc2 := lcell (hc1)
  refine region_later (W := w) (by kernel_rfl) (by kernel_rfl) (Below.refl _ _) ?_
  repeat (go_big_quiet_step (fail))
  refine wpQuiet_nil ?_
  intro W1 hW1
  have HL : Hid (Below w.heap.size w W1) := by obtain ⟨x, rfl⟩ := hW1; exact Lib.hid x.below
  clear hW1 lc0 lc1 lc2
  go_wp2_with fail
  go_ret
  exact ⟨rfl, HL.out⟩
end Go.Proofs.Ytdmnkmdlochogab
