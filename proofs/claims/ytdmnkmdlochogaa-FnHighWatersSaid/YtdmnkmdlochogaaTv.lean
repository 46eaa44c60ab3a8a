/-
  Curves of tides: contracts of impl.isTideLevel, spec.l4Height, impl.IsTideCurve, spec.l4Good, spec.IsTideCurve over this translation. Conditions: stated at each theorem.
-/
import Derived.Test.YtdmnkmdlochogaaTp
import Derived.BigRegion
import Derived.Deep.QuietTactic
import Derived.BigQuiet
namespace Go.Proofs.Ytdmnkmdlochogaa
open Go.RowKit

theorem tlevel_impl (n : Int) (v : Bool) (h : inB n (-1000) 2000 = v) (w : World) :
    Calls Try.prog 107 #[.int .i64 n] w fun e w' => e = .returned (.bool v) ∧ w = w' := by
  have H := Lib.hid h
  clear h
  go_enter Try.func107, Try.ntmps107
  go_wp2_with fail
  refine (within_v _ _ _ _ H.out _).mono ?_
  rintro e w' ⟨rfl, rfl⟩
  go_wp2_with fail
  go_ret
  exact ⟨rfl, rfl⟩
theorem tlevel_spec (n : Int) (v : Bool) (h : inB n (-1000) 2000 = v) (w : World) :
    Calls Try.prog 118 #[.int .i64 n] w fun e w' => e = .returned (.bool v) ∧ w = w' := by
  have H := Lib.hid h
  clear h
  go_enter Try.func118, Try.ntmps118
  go_wp2_with fail
  refine (l1In_v _ _ _ _ H.out _).mono ?_
  rintro e w' ⟨rfl, rfl⟩
  go_wp2_with fail
  go_ret
  exact ⟨rfl, rfl⟩
set_option maxHeartbeats 1600000 in
theorem isT_impl (A : Option Addr) (n c : Nat) (l : List (Int × Int)) (w : World) (hs : Spots w w.heap.size A n l) (hm : n ≤ maxLen) :
    Calls Try.prog 35 #[.slice A n c] w fun e w' => e = .returned (.bool (tideB l)) ∧ Below w.heap.size w w' := by
  have HLn := Lib.hid hs.1
  unfold maxLen at hm
  rcases h1 : inB (n : Int) 1 12 with _ | _
  · have H1 := Lib.hid h1
    have HR := Lib.hid (tideB_len (l := l) (by rw [HLn.out]; exact h1))
    clear h1
    go_enter Try.func35, Try.ntmps35
    go_wp2_with fail
    refine (within_v _ _ _ _ H1.out _).mono ?_
    rintro e w' ⟨rfl, rfl⟩
    go_wp2_with fail
    go_ret
    exact ⟨ret_bool HR.out.symm, Below.refl _ _⟩
  have H1 := Lib.hid h1
  clear h1
  go_enter Try.func35, Try.ntmps35
  go_wp2_with fail
  refine (within_v _ _ _ _ H1.out _).mono ?_
  rintro e w' ⟨rfl, rfl⟩
  go_wp2_with fail
  go_loopw [11] (fun i wr => ∃ k : Nat, k ≤ n ∧ i = .int .i64 k ∧ Hid (tgoodK l k = true) ∧ Hid (Below w.heap.size w wr)) (fun i _ => n - (intOf i).toNat)
  case atStart => exact ⟨0, Nat.zero_le _, rfl, by simp [Hid, tgoodK], Lib.hid (Below.refl _ _)⟩
  case round =>
    obtain ⟨k, hk, rfl, hA, hB⟩ := hrel
    by_cases hlt : k < n
    · obtain ⟨b, o, x, y, rfl, hbl, hlk, hc0, hc1⟩ := (hs.on hB.out (Nat.le_refl _)).2 k hlt
      have HK := Lib.hid hlk
      clear hlk
      obtain ⟨W0, hW0⟩ : ∃ W0, W0 = wr.alloc (.cells #[.int .i64 x, .int .i64 y] 50) := ⟨_, rfl⟩
      have HW : Hid (Below wr.heap.size wr W0 ∧ Has W0 wr.heap.size [.int .i64 x, .int .i64 y]) := by rw [hW0]; exact box1 (Below.refl _ _)
      have HB0 := Lib.hid (bthen hB.out HW.out.1 hB.out.size)
      have a0 := HW.out.2.at_ 0 _ rfl
      have a1 := HW.out.2.at_ 1 _ rfl
      have HE := Lib.hid hW0
      clear hW0
      go_wp2_with fail
      rw [← HE.out]
      rcases ht : inB x 0 10000 with _ | _
      · have HT := Lib.hid ht
        have HR := Lib.hid (tideB_bad (tgoodK_bad (l := l) (n := l.length) (by have := HLn.out; omega) (tstep_bad HK.out (by unfold tideP; rw [ht]; rfl))))
        clear ht
        have lc0 := lcell (a0)
        have lc1 := lcell (a1)
        refine region_later (W := W0) (by kernel_rfl) (by kernel_rfl) (Below.refl _ _) ?_
        repeat (go_big_quiet_step (((first | (go_at_call 106; exact later_same (time_impl _ _ HT.out _)) | (go_at_call 107; exact later_same (tlevel_impl _ _ HV.out _))))))
        refine wpQuiet_nil ?_
        intro W1 hW1
        have HL : Hid (Below W0.heap.size W0 W1) := by obtain ⟨x, rfl⟩ := hW1; exact Lib.hid x.below
        clear hW1 lc0 lc1
        have HT2 := Lib.hid (bthen HB0.out HL.out HB0.out.size)
        go_wp2_with fail
        go_ret
        exact ⟨ret_bool HR.out.symm, HT2.out⟩
      rcases hv : inB y (-1000) 2000 with _ | _
      · have HT := Lib.hid ht
        have HV := Lib.hid hv
        have HR := Lib.hid (tideB_bad (tgoodK_bad (l := l) (n := l.length) (by have := HLn.out; omega) (tstep_bad HK.out (by unfold tideP; rw [ht, hv]; rfl))))
        clear ht hv
        have lc0 := lcell (a0)
        have lc1 := lcell (a1)
        refine region_later (W := W0) (by kernel_rfl) (by kernel_rfl) (Below.refl _ _) ?_
        repeat (go_big_quiet_step (((first | (go_at_call 106; exact later_same (time_impl _ _ HT.out _)) | (go_at_call 107; exact later_same (tlevel_impl _ _ HV.out _))))))
        refine wpQuiet_nil ?_
        intro W1 hW1
        have HL : Hid (Below W0.heap.size W0 W1) := by obtain ⟨x, rfl⟩ := hW1; exact Lib.hid x.below
        clear hW1 lc0 lc1
        have HT2 := Lib.hid (bthen HB0.out HL.out HB0.out.size)
        go_wp2_with fail
        go_ret
        exact ⟨ret_bool HR.out.symm, HT2.out⟩
      have HT := Lib.hid ht
      have HV := Lib.hid hv
      have HP : Hid (tideP x y = true) := by unfold Hid tideP; rw [ht, hv]; rfl
      clear ht hv
      rcases k with _ | j
      · have HR : Hid (tgoodK l (0 + 1) = true) := by unfold Hid; rw [tgoodK_succ, hA.out, tstep_zero HK.out HP.out]; rfl
        skip
        have lc0 := lcell (a0)
        have lc1 := lcell (a1)
        refine region_later (W := W0) (by kernel_rfl) (by kernel_rfl) (Below.refl _ _) ?_
        repeat (go_big_quiet_step (((first | (go_at_call 106; exact later_same (time_impl _ _ HT.out _)) | (go_at_call 107; exact later_same (tlevel_impl _ _ HV.out _))))))
        refine wpQuiet_nil ?_
        intro W1 hW1
        have HL : Hid (Below W0.heap.size W0 W1) := by obtain ⟨x, rfl⟩ := hW1; exact Lib.hid x.below
        clear hW1 lc0 lc1
        have HT2 := Lib.hid (bthen HB0.out HL.out HB0.out.size)
        go_wp2_with fail
        go_roundw
        case rel => exact ⟨1, by omega, by go_num, HR, HT2⟩
        case measure => simp [intOf]; omega
      · obtain ⟨b', o', x', y', hA', hb', hl', d0, d1⟩ := (hs.on hB.out (Nat.le_refl _)).2 j (by omega)
        obtain ⟨rfl, rfl⟩ : b = b' ∧ o = o' := by injection hA' with h; injection h with h h'; exact ⟨h, h'⟩
        have e0 := cell_next HW.out.1 d0
        clear d0 d1
        have HS := Lib.hid (tstep_at HK.out hl' HP.out)
        clear hA' hl'
        by_cases hx : x ≤ x'
        · have HR := Lib.hid (tideB_bad (tgoodK_bad (l := l) (n := l.length) (k := j + 1) (by have := HLn.out; omega) (by rw [HS.out]; exact decide_eq_false (by omega))))
          have hd : decide (x ≤ x') = true := decide_eq_true hx
          have lc0 := lcell (a0)
          have lc1 := lcell (a1)
          have lc2 := lcell (e0)
          refine region_later (W := W0) (by kernel_rfl) (by kernel_rfl) (Below.refl _ _) ?_
          repeat (go_big_quiet_step (((first | (go_at_call 106; exact later_same (time_impl _ _ HT.out _)) | (go_at_call 107; exact later_same (tlevel_impl _ _ HV.out _))))))
          refine wpQuiet_nil ?_
          intro W1 hW1
          have HL : Hid (Below W0.heap.size W0 W1) := by obtain ⟨x, rfl⟩ := hW1; exact Lib.hid x.below
          clear hW1 lc0 lc1 lc2
          have HT2 := Lib.hid (bthen HB0.out HL.out HB0.out.size)
          go_wp2_with fail
          go_ret
          exact ⟨ret_bool HR.out.symm, HT2.out⟩
        · have HR : Hid (tgoodK l (j + 1 + 1) = true) := by unfold Hid; rw [tgoodK_succ, hA.out, HS.out]; exact decide_eq_true (by omega)
          have hd : decide (x ≤ x') = false := decide_eq_false hx
          have lc0 := lcell (a0)
          have lc1 := lcell (a1)
          have lc2 := lcell (e0)
          refine region_later (W := W0) (by kernel_rfl) (by kernel_rfl) (Below.refl _ _) ?_
          repeat (go_big_quiet_step (((first | (go_at_call 106; exact later_same (time_impl _ _ HT.out _)) | (go_at_call 107; exact later_same (tlevel_impl _ _ HV.out _))))))
          refine wpQuiet_nil ?_
          intro W1 hW1
          have HL : Hid (Below W0.heap.size W0 W1) := by obtain ⟨x, rfl⟩ := hW1; exact Lib.hid x.below
          clear hW1 lc0 lc1 lc2
          have HT2 := Lib.hid (bthen HB0.out HL.out HB0.out.size)
          go_wp2_with fail
          go_roundw
          case rel => exact ⟨j + 1 + 1, by omega, by go_num, HR, HT2⟩
          case measure => simp [intOf]; omega
    · have HR : Hid (tideB l = true) := by
        have h1 := hA.out
        have h2 := HLn.out
        obtain rfl : k = n := by omega
        exact (tideB_good (by rw [h2]; exact h1)).trans (by rw [h2]; exact H1.out)
      go_wp2
      go_ret
      exact ⟨ret_bool HR.out.symm, hB.out⟩
set_option maxHeartbeats 1600000 in
theorem good_spec (A : Option Addr) (n c : Nat) (l : List (Int × Int)) (w : World) (hs : Spots w w.heap.size A n l) (hm : n ≤ maxLen) :
    Calls Try.prog 108 #[.slice A n c] w fun e w' => e = .returned (.bool (tideB l)) ∧ Below w.heap.size w w' := by
  have HLn := Lib.hid hs.1
  unfold maxLen at hm
  go_enter Try.func108, Try.ntmps108
  go_wp2
  go_loopw [3] (fun i wr => ∃ k : Nat, k ≤ n ∧ i = .int .i64 k ∧ Hid (tgoodK l k = true) ∧ Hid (Below w.heap.size w wr)) (fun i _ => n - (intOf i).toNat)
  case atStart => exact ⟨0, Nat.zero_le _, rfl, by simp [Hid, tgoodK], Lib.hid (Below.refl _ _)⟩
  case round =>
    obtain ⟨k, hk, rfl, hA, hB⟩ := hrel
    by_cases hlt : k < n
    · obtain ⟨b, o, x, y, rfl, hbl, hlk, hc0, hc1⟩ := (hs.on hB.out (Nat.le_refl _)).2 k hlt
      have HK := Lib.hid hlk
      clear hlk
      go_wp2_with fail
      rcases ht : inB x 0 10000 with _ | _
      · have HT := Lib.hid ht
        have HR := Lib.hid (tideB_bad (tgoodK_bad (l := l) (n := l.length) (by have := HLn.out; omega) (tstep_bad HK.out (by unfold tideP; rw [ht]; rfl))))
        clear ht
        have lc0 := lcell (hc0)
        have lc1 := lcell (hc1)
        refine region_later (W := wr) (by kernel_rfl) (by kernel_rfl) (Below.refl _ _) ?_
        repeat (go_big_quiet_step (((first | (go_at_call 153; exact later_same (time_spec _ _ HT.out _)) | (go_at_call 118; exact later_same (tlevel_spec _ _ HV.out _))))))
        refine wpQuiet_nil ?_
        intro W1 hW1
        have HL : Hid (Below wr.heap.size wr W1) := by obtain ⟨x, rfl⟩ := hW1; exact Lib.hid x.below
        clear hW1 lc0 lc1
        have HT2 := Lib.hid (bthen hB.out HL.out hB.out.size)
        go_wp2_with fail
        go_ret
        exact ⟨ret_bool HR.out.symm, HT2.out⟩
      rcases hv : inB y (-1000) 2000 with _ | _
      · have HT := Lib.hid ht
        have HV := Lib.hid hv
        have HR := Lib.hid (tideB_bad (tgoodK_bad (l := l) (n := l.length) (by have := HLn.out; omega) (tstep_bad HK.out (by unfold tideP; rw [ht, hv]; rfl))))
        clear ht hv
        have lc0 := lcell (hc0)
        have lc1 := lcell (hc1)
        refine region_later (W := wr) (by kernel_rfl) (by kernel_rfl) (Below.refl _ _) ?_
        repeat (go_big_quiet_step (((first | (go_at_call 153; exact later_same (time_spec _ _ HT.out _)) | (go_at_call 118; exact later_same (tlevel_spec _ _ HV.out _))))))
        refine wpQuiet_nil ?_
        intro W1 hW1
        have HL : Hid (Below wr.heap.size wr W1) := by obtain ⟨x, rfl⟩ := hW1; exact Lib.hid x.below
        clear hW1 lc0 lc1
        have HT2 := Lib.hid (bthen hB.out HL.out hB.out.size)
        go_wp2_with fail
        go_ret
        exact ⟨ret_bool HR.out.symm, HT2.out⟩
      have HT := Lib.hid ht
      have HV := Lib.hid hv
      have HP : Hid (tideP x y = true) := by unfold Hid tideP; rw [ht, hv]; rfl
      clear ht hv
      rcases k with _ | j
      · have HR : Hid (tgoodK l (0 + 1) = true) := by unfold Hid; rw [tgoodK_succ, hA.out, tstep_zero HK.out HP.out]; rfl
        simp only [Nat.zero_mul, Nat.add_zero] at hc0 hc1
        have lc0 := lcell (hc0)
        have lc1 := lcell (hc1)
        refine region_later (W := wr) (by kernel_rfl) (by kernel_rfl) (Below.refl _ _) ?_
        repeat (go_big_quiet_step (((first | (go_at_call 153; exact later_same (time_spec _ _ HT.out _)) | (go_at_call 118; exact later_same (tlevel_spec _ _ HV.out _))))))
        refine wpQuiet_nil ?_
        intro W1 hW1
        have HL : Hid (Below wr.heap.size wr W1) := by obtain ⟨x, rfl⟩ := hW1; exact Lib.hid x.below
        clear hW1 lc0 lc1
        have HT2 := Lib.hid (bthen hB.out HL.out hB.out.size)
        go_wp2_with fail
        go_roundw
        case rel => exact ⟨1, by omega, by go_num, HR, HT2⟩
        case measure => simp [intOf]; omega
      · obtain ⟨b', o', x', y', hA', hb', hl', d0, d1⟩ := (hs.on hB.out (Nat.le_refl _)).2 j (by omega)
        obtain ⟨rfl, rfl⟩ : b = b' ∧ o = o' := by injection hA' with h; injection h with h h'; exact ⟨h, h'⟩
        have e0 := d0
        clear d0 d1
        have HS := Lib.hid (tstep_at HK.out hl' HP.out)
        clear hA' hl'
        by_cases hx : x ≤ x'
        · have HR := Lib.hid (tideB_bad (tgoodK_bad (l := l) (n := l.length) (k := j + 1) (by have := HLn.out; omega) (by rw [HS.out]; exact decide_eq_false (by omega))))
          have hd : decide (x ≤ x') = true := decide_eq_true hx
          have lc0 := lcell (hc0)
          have lc1 := lcell (hc1)
          have lc2 := lcell (e0)
          refine region_later (W := wr) (by kernel_rfl) (by kernel_rfl) (Below.refl _ _) ?_
          repeat (go_big_quiet_step (((first | (go_at_call 153; exact later_same (time_spec _ _ HT.out _)) | (go_at_call 118; exact later_same (tlevel_spec _ _ HV.out _))))))
          refine wpQuiet_nil ?_
          intro W1 hW1
          have HL : Hid (Below wr.heap.size wr W1) := by obtain ⟨x, rfl⟩ := hW1; exact Lib.hid x.below
          clear hW1 lc0 lc1 lc2
          have HT2 := Lib.hid (bthen hB.out HL.out hB.out.size)
          go_wp2_with fail
          go_ret
          exact ⟨ret_bool HR.out.symm, HT2.out⟩
        · have HR : Hid (tgoodK l (j + 1 + 1) = true) := by unfold Hid; rw [tgoodK_succ, hA.out, HS.out]; exact decide_eq_true (by omega)
          have hd : decide (x ≤ x') = false := decide_eq_false hx
          have lc0 := lcell (hc0)
          have lc1 := lcell (hc1)
          have lc2 := lcell (e0)
          refine region_later (W := wr) (by kernel_rfl) (by kernel_rfl) (Below.refl _ _) ?_
          repeat (go_big_quiet_step (((first | (go_at_call 153; exact later_same (time_spec _ _ HT.out _)) | (go_at_call 118; exact later_same (tlevel_spec _ _ HV.out _))))))
          refine wpQuiet_nil ?_
          intro W1 hW1
          have HL : Hid (Below wr.heap.size wr W1) := by obtain ⟨x, rfl⟩ := hW1; exact Lib.hid x.below
          clear hW1 lc0 lc1 lc2
          have HT2 := Lib.hid (bthen hB.out HL.out hB.out.size)
          go_wp2_with fail
          go_roundw
          case rel => exact ⟨j + 1 + 1, by omega, by go_num, HR, HT2⟩
          case measure => simp [intOf]; omega
    · have HR : Hid (tideB l = inB (n : Int) 1 12) := by
        have h1 := hA.out
        have h2 := HLn.out
        obtain rfl : k = n := by omega
        exact (tideB_good (by rw [h2]; exact h1)).trans (by rw [h2])
      go_wp2_with fail
      refine (l1In_any _ _ _ _).mono ?_
      rintro e w' ⟨rfl, rfl⟩
      go_wp2_with fail
      go_ret
      exact ⟨ret_bool HR.out.symm, hB.out⟩
theorem isT_v (A : Option Addr) (n c : Nat) (l : List (Int × Int)) (v : Bool) (h : tideB l = v) (w : World) (hs : Spots w w.heap.size A n l) (hm : n ≤ maxLen) :
    Calls Try.prog 35 #[.slice A n c] w fun e w' => e = .returned (.bool v) ∧ Below w.heap.size w w' := h ▸ isT_impl A n c l w hs hm
theorem good_v (A : Option Addr) (n c : Nat) (l : List (Int × Int)) (v : Bool) (h : tideB l = v) (w : World) (hs : Spots w w.heap.size A n l) (hm : n ≤ maxLen) :
    Calls Try.prog 108 #[.slice A n c] w fun e w' => e = .returned (.bool v) ∧ Below w.heap.size w w' := h ▸ good_spec A n c l w hs hm
theorem isT_spec (A : Option Addr) (n c : Nat) (l : List (Int × Int)) (w : World) (hs : Spots w w.heap.size A n l) (hm : n ≤ maxLen) :
    Calls Try.prog 36 #[.slice A n c] w fun e w' => e = .returned (.bool (tideB l)) ∧ Below w.heap.size w w' := by
  have HS := Lib.hid hs
  clear hs
  go_enter Try.func36, Try.ntmps36
  go_wp2_with fail
  refine (good_spec _ _ _ l _ HS.out hm).mono ?_
  rintro e w1 ⟨rfl, hb⟩
  have HB := Lib.hid hb
  clear hb
  go_wp2_with fail
  go_ret
  exact ⟨rfl, HB.out⟩
end Go.Proofs.Ytdmnkmdlochogaa
