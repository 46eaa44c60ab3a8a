/-
  Words, times, readings, gauges: contracts of impl.isWord, spec.l2Word, impl.isTime, spec.l2Time, impl.isReading, impl.areReadings, spec.l3One, impl.IsGauge, spec.IsGauge over this translation. Conditions: stated at each theorem.
-/
import Derived.Test.YtdmnkmdlochogaaWd
import Derived.BigRegion
import Derived.Deep.QuietTactic
import Derived.BigQuiet
namespace Go.Proofs.Ytdmnkmdlochogaa
open Go.RowKit

/-! ### Times and readings -/
theorem time_impl (n : Int) (v : Bool) (h : inB n 0 10000 = v) (w : World) :
    Calls Try.prog 106 #[.int .i64 n] w fun e w' => e = .returned (.bool v) ∧ w = w' := by
  have H := Lib.hid h
  clear h
  go_enter Try.func106, Try.ntmps106
  go_wp2_with fail
  refine (within_v _ _ _ _ H.out _).mono ?_
  rintro e w' ⟨rfl, rfl⟩
  go_wp2_with fail
  go_ret
  exact ⟨rfl, rfl⟩
theorem time_spec (n : Int) (v : Bool) (h : inB n 0 10000 = v) (w : World) :
    Calls Try.prog 153 #[.int .i64 n] w fun e w' => e = .returned (.bool v) ∧ w = w' := by
  have H := Lib.hid h
  clear h
  go_enter Try.func153, Try.ntmps153
  go_wp2_with fail
  refine (l1In_v _ _ _ _ H.out _).mono ?_
  rintro e w' ⟨rfl, rfl⟩
  go_wp2_with fail
  go_ret
  exact ⟨rfl, rfl⟩
def readP (x y : Int) : Bool := inB x 0 10000 && inB y (-500) 2000
theorem isReading_v (x y : Int) (v : Bool) (h : readP x y = v) (w : World) :
    Calls Try.prog 178 #[.agg #[.int .i64 x, .int .i64 y]] w fun e w' => e = .returned (.bool v) ∧ Below w.heap.size w w' := by
  subst h
  rcases h1 : inB x 0 10000 with _ | _
  · have HR : Hid (readP x y = false) := by unfold Hid readP; rw [h1]; rfl
    have H1 := Lib.hid h1
    clear h1
    go_enter Try.func178, Try.ntmps178
    go_wp2_with fail
    refine (time_impl _ _ H1.out _).mono ?_
    rintro e w' ⟨rfl, rfl⟩
    go_wp2_with fail
    go_ret
    exact ⟨ret_bool HR.out.symm, (Below.refl _ _).alloc (Nat.le_refl _) _⟩
  rcases h2 : inB y (-500) 2000 with _ | _
  all_goals
    have HR : Hid (readP x y = inB y (-500) 2000) := by unfold Hid readP; rw [h1]; rfl
    have H1 := Lib.hid h1
    have H2 := Lib.hid h2
    clear h1 h2
    go_enter Try.func178, Try.ntmps178
    go_wp2_with fail
    refine (time_impl _ _ H1.out _).mono ?_
    rintro e w' ⟨rfl, rfl⟩
    go_wp2_with fail
    refine (within_v _ _ _ _ H2.out _).mono ?_
    rintro e w' ⟨rfl, rfl⟩
    go_wp2_with fail
    go_ret
    exact ⟨ret_bool (HR.out.trans H2.out).symm, (Below.refl _ _).alloc (Nat.le_refl _) _⟩

/-! ### Rows of readings -/
def stepB (l : List (Int × Int)) (k : Nat) : Bool := readP (l.getD k (0, 0)).1 (l.getD k (0, 0)).2 && (k == 0 || decide ((l.getD (k - 1) (0, 0)).1 < (l.getD k (0, 0)).1))
def goodK (l : List (Int × Int)) (k : Nat) : Bool := (List.range k).all (stepB l)
def readsB (l : List (Int × Int)) : Bool := decide (l.length ≤ 15) && goodK l l.length
theorem goodK_succ (l : List (Int × Int)) (k : Nat) : goodK l (k + 1) = (goodK l k && stepB l k) := by
  unfold goodK
  rw [List.range_succ, List.all_append]
  simp
theorem goodK_bad {l : List (Int × Int)} {k n : Nat} (h : k < n) (hb : stepB l k = false) : goodK l n = false := by
  unfold goodK
  rw [List.all_eq_false]
  exact ⟨k, by simpa using h, by simpa using hb⟩
theorem getD_at {l : List (Int × Int)} {k : Nat} {p : Int × Int} (h : l[k]? = some p) : l.getD k (0, 0) = p := by
  rw [List.getD_eq_getElem?_getD, h]; rfl
theorem step_bad {l : List (Int × Int)} {k : Nat} {x y : Int} (h : l[k]? = some (x, y)) (hr : readP x y = false) : stepB l k = false := by
  unfold stepB; rw [getD_at h, hr]; rfl
theorem step_zero {l : List (Int × Int)} {x y : Int} (h : l[0]? = some (x, y)) (hr : readP x y = true) : stepB l 0 = true := by
  unfold stepB; rw [getD_at h, hr]; rfl
theorem step_at {l : List (Int × Int)} {k : Nat} {x y x' y' : Int} (h : l[k + 1]? = some (x, y)) (h' : l[k]? = some (x', y')) (hr : readP x y = true) : stepB l (k + 1) = decide (x' < x) := by
  unfold stepB; rw [getD_at h, Nat.add_sub_cancel, getD_at h', hr]; simp
theorem readsB_long {l : List (Int × Int)} (h : ¬ l.length ≤ 15) : readsB l = false := by unfold readsB; rw [decide_eq_false h]; rfl
theorem readsB_bad {l : List (Int × Int)} (h : goodK l l.length = false) : readsB l = false := by unfold readsB; rw [h, Bool.and_false]
theorem readsB_good {l : List (Int × Int)} (h : goodK l l.length = true) (hl : l.length ≤ 15) : readsB l = true := by unfold readsB; rw [h, decide_eq_true hl]; rfl
set_option maxHeartbeats 1600000 in
theorem areReadings_impl (A : Option Addr) (n c : Nat) (l : List (Int × Int)) (w : World) (hs : Spots w w.heap.size A n l) (hm : n ≤ maxLen) :
    Calls Try.prog 152 #[.slice A n c] w fun e w' => e = .returned (.bool (readsB l)) ∧ Below w.heap.size w w' := by
  have HL := Lib.hid hs.1
  unfold maxLen at hm
  by_cases h15 : (15 : Int) < n
  · have HR := Lib.hid (readsB_long (l := l) (by have := HL.out; omega))
    go_enter Try.func152, Try.ntmps152
    go_wp2
    go_ret
    exact ⟨ret_bool HR.out.symm, Below.refl _ _⟩
  go_enter Try.func152, Try.ntmps152
  go_wp2
  go_loopw [10] (fun i wr => ∃ k : Nat, k ≤ n ∧ i = .int .i64 k ∧ Hid (goodK l k = true) ∧ Hid (Below w.heap.size w wr)) (fun i _ => n - (intOf i).toNat)
  case atStart => exact ⟨0, Nat.zero_le _, rfl, by simp [Hid, goodK], Lib.hid (Below.refl _ _)⟩
  case round =>
    obtain ⟨k, hk, rfl, hA, hB⟩ := hrel
    by_cases hlt : k < n
    · obtain ⟨b, o, x, y, rfl, hbl, hlk, hc0, hc1⟩ := (hs.on hB.out (Nat.le_refl _)).2 k hlt
      have HK := Lib.hid hlk
      clear hlk
      obtain ⟨W0, hW0⟩ : ∃ W0, W0 = wr.alloc (.cells #[.int .i64 x, .int .i64 y] 34) := ⟨_, rfl⟩
      have HW : Hid (Below wr.heap.size wr W0 ∧ Has W0 wr.heap.size [.int .i64 x, .int .i64 y]) := by rw [hW0]; exact box1 (Below.refl _ _)
      have HB0 := Lib.hid (bthen hB.out HW.out.1 hB.out.size)
      have a0 := HW.out.2.at_ 0 _ rfl
      have a1 := HW.out.2.at_ 1 _ rfl
      have HE := Lib.hid hW0
      clear hW0
      go_wp2_with fail
      rw [← HE.out]
      rcases hv : readP x y with _ | _
      · have HV := Lib.hid hv
        have HR := Lib.hid (readsB_bad (goodK_bad (by have := HL.out; omega) (step_bad HK.out hv)))
        clear hv
        have lc0 := lcell (a0)
        have lc1 := lcell (a1)
        refine region_later (W := W0) (by kernel_rfl) (by kernel_rfl) (Below.refl _ _) ?_
        repeat (go_big_quiet_step (((go_at_call 178; exact later_call (isReading_v _ _ _ HV.out _)))))
        refine wpQuiet_nil ?_
        intro W1 hW1
        have HL : Hid (Below W0.heap.size W0 W1) := by obtain ⟨x, rfl⟩ := hW1; exact Lib.hid x.below
        clear hW1 lc0 lc1
        have HT := Lib.hid (bthen HB0.out HL.out HB0.out.size)
        go_wp2_with fail
        go_ret
        exact ⟨ret_bool HR.out.symm, HT.out⟩
      have HV := Lib.hid hv
      clear hv
      rcases k with _ | j
      · have HR : Hid (goodK l (0 + 1) = true) := by unfold Hid; rw [goodK_succ, hA.out, step_zero HK.out HV.out]; rfl
        have lc0 := lcell (a0)
        have lc1 := lcell (a1)
        refine region_later (W := W0) (by kernel_rfl) (by kernel_rfl) (Below.refl _ _) ?_
        repeat (go_big_quiet_step (((go_at_call 178; exact later_call (isReading_v _ _ _ HV.out _)))))
        refine wpQuiet_nil ?_
        intro W1 hW1
        have HL : Hid (Below W0.heap.size W0 W1) := by obtain ⟨x, rfl⟩ := hW1; exact Lib.hid x.below
        clear hW1 lc0 lc1
        have HT := Lib.hid (bthen HB0.out HL.out HB0.out.size)
        go_wp2_with fail
        go_roundw
        case rel => exact ⟨1, by omega, by go_num, HR, HT⟩
        case measure => simp [intOf]; omega
      · obtain ⟨b', o', x', y', hA', hb', hl', d0, d1⟩ := (hs.on hB.out (Nat.le_refl _)).2 j (by omega)
        obtain ⟨rfl, rfl⟩ : b = b' ∧ o = o' := by injection hA' with h; injection h with h h'; exact ⟨h, h'⟩
        have e0 := cell_next HW.out.1 d0
        have HS := Lib.hid (step_at HK.out hl' HV.out)
        clear hA' hl' d0 d1
        by_cases hx : x ≤ x'
        · have HR := Lib.hid (readsB_bad (goodK_bad (l := l) (k := j + 1) (by have := HL.out; omega) (by rw [HS.out]; exact decide_eq_false (by omega))))
          have hd : decide (x ≤ x') = true := decide_eq_true hx
          have lc0 := lcell (a0)
          have lc1 := lcell (a1)
          have lc2 := lcell (e0)
          refine region_later (W := W0) (by kernel_rfl) (by kernel_rfl) (Below.refl _ _) ?_
          repeat (go_big_quiet_step (((go_at_call 178; exact later_call (isReading_v _ _ _ HV.out _)))))
          refine wpQuiet_nil ?_
          intro W1 hW1
          have HL : Hid (Below W0.heap.size W0 W1) := by obtain ⟨x, rfl⟩ := hW1; exact Lib.hid x.below
          clear hW1 lc0 lc1 lc2
          have HT := Lib.hid (bthen HB0.out HL.out HB0.out.size)
          go_wp2_with fail
          go_ret
          exact ⟨ret_bool HR.out.symm, HT.out⟩
        · have HR : Hid (goodK l (j + 1 + 1) = true) := by unfold Hid; rw [goodK_succ, hA.out, HS.out]; exact decide_eq_true (by omega)
          have hd : decide (x ≤ x') = false := decide_eq_false hx
          have lc0 := lcell (a0)
          have lc1 := lcell (a1)
          have lc2 := lcell (e0)
          refine region_later (W := W0) (by kernel_rfl) (by kernel_rfl) (Below.refl _ _) ?_
          repeat (go_big_quiet_step (((go_at_call 178; exact later_call (isReading_v _ _ _ HV.out _)))))
          refine wpQuiet_nil ?_
          intro W1 hW1
          have HL : Hid (Below W0.heap.size W0 W1) := by obtain ⟨x, rfl⟩ := hW1; exact Lib.hid x.below
          clear hW1 lc0 lc1 lc2
          have HT := Lib.hid (bthen HB0.out HL.out HB0.out.size)
          go_wp2_with fail
          go_roundw
          case rel => exact ⟨j + 1 + 1, by omega, by go_num, HR, HT⟩
          case measure => simp [intOf]; omega
    · have HR : Hid (readsB l = true) := by
        have h1 := hA.out
        have h2 := HL.out
        obtain rfl : k = n := by omega
        exact readsB_good (by rw [h2]; exact h1) (by omega)
      go_wp2
      go_ret
      exact ⟨ret_bool HR.out.symm, hB.out⟩
theorem areReadings_v (A : Option Addr) (n c : Nat) (l : List (Int × Int)) (v : Bool) (h : readsB l = v) (w : World) (hs : Spots w w.heap.size A n l) (hm : n ≤ maxLen) :
    Calls Try.prog 152 #[.slice A n c] w fun e w' => e = .returned (.bool v) ∧ Below w.heap.size w w' := h ▸ areReadings_impl A n c l w hs hm

/-! ### Gauges -/
def gaugeB (id : Int) (nm : ByteArray) (ze : Int) (l : List (Int × Int)) : Bool := inB id 1 99 && wordB nm && inB ze (-1000) 1000 && readsB l
set_option maxHeartbeats 1600000 in
theorem isGauge_impl (id ze : Int) (nm : ByteArray) (A : Option Addr) (n c : Nat) (l : List (Int × Int)) (w : World) (hs : Spots w w.heap.size A n l) (hm : n ≤ maxLen) (hn : nm.size ≤ maxLen) :
    Calls Try.prog 84 #[.agg #[.int .i64 id, .string nm, .int .i64 ze, .slice A n c]] w fun e w' => e = .returned (.bool (gaugeB id nm ze l)) ∧ Below w.heap.size w w' := by
  have HX := Lib.hid (box1 (cs := #[.int .i64 id, .string nm, .int .i64 ze, .slice A n c]) (T := 26) (Below.refl _ _) (w := w))
  have HS := Lib.hid (spots_alloc hs (.cells #[.int .i64 id, .string nm, .int .i64 ze, .slice A n c] 26))
  clear hs
  rcases h1 : inB id 1 99 with _ | _
  · have HR : Hid (gaugeB id nm ze l = false) := by unfold Hid gaugeB; rw [h1]; simp
    have H1 := Lib.hid h1
    clear h1
    go_enter Try.func84, Try.ntmps84
    go_wp2_with fail
    refine (within_v _ _ _ _ H1.out _).mono ?_
    rintro e w' ⟨rfl, rfl⟩
    go_wp2_with fail
    go_ret
    exact ⟨ret_bool HR.out.symm, HX.out.1⟩
  rcases h2 : wordB nm with _ | _
  · have HR : Hid (gaugeB id nm ze l = false) := by unfold Hid gaugeB; rw [h1, h2]; simp
    have H1 := Lib.hid h1
    have H2 := Lib.hid h2
    clear h1 h2
    go_enter Try.func84, Try.ntmps84
    go_wp2_with fail
    refine (within_v _ _ _ _ H1.out _).mono ?_
    rintro e w' ⟨rfl, rfl⟩
    go_wp2_with fail
    refine (isWord_v _ _ H2.out _ hn).mono ?_
    rintro e w' ⟨rfl, rfl⟩
    go_wp2_with fail
    go_ret
    exact ⟨ret_bool HR.out.symm, HX.out.1⟩
  rcases h3 : inB ze (-1000) 1000 with _ | _
  · have HR : Hid (gaugeB id nm ze l = false) := by unfold Hid gaugeB; rw [h1, h2, h3]; simp
    have H1 := Lib.hid h1
    have H2 := Lib.hid h2
    have H3 := Lib.hid h3
    clear h1 h2 h3
    go_enter Try.func84, Try.ntmps84
    go_wp2_with fail
    refine (within_v _ _ _ _ H1.out _).mono ?_
    rintro e w' ⟨rfl, rfl⟩
    go_wp2_with fail
    refine (isWord_v _ _ H2.out _ hn).mono ?_
    rintro e w' ⟨rfl, rfl⟩
    go_wp2_with fail
    refine (within_v _ _ _ _ H3.out _).mono ?_
    rintro e w' ⟨rfl, rfl⟩
    go_wp2_with fail
    go_ret
    exact ⟨ret_bool HR.out.symm, HX.out.1⟩
  have HR : Hid (gaugeB id nm ze l = readsB l) := by unfold Hid gaugeB; rw [h1, h2, h3]; rfl
  have H1 := Lib.hid h1
  have H2 := Lib.hid h2
  have H3 := Lib.hid h3
  clear h1 h2 h3
  go_enter Try.func84, Try.ntmps84
  go_wp2_with fail
  refine (within_v _ _ _ _ H1.out _).mono ?_
  rintro e w' ⟨rfl, rfl⟩
  go_wp2_with fail
  refine (isWord_v _ _ H2.out _ hn).mono ?_
  rintro e w' ⟨rfl, rfl⟩
  go_wp2_with fail
  refine (within_v _ _ _ _ H3.out _).mono ?_
  rintro e w' ⟨rfl, rfl⟩
  go_wp2_with fail
  refine (areReadings_impl _ _ _ l _ HS.out hm).mono ?_
  rintro e w1 ⟨rfl, hb⟩
  have HT := Lib.hid (bthen HX.out.1 hb HX.out.1.size)
  clear hb
  go_wp2_with fail
  go_ret
  exact ⟨ret_bool HR.out.symm, HT.out⟩
theorem gaugeB_bad (id : Int) (nm : ByteArray) (ze : Int) {l : List (Int × Int)} (h : goodK l l.length = false) : gaugeB id nm ze l = false := by
  unfold gaugeB; rw [readsB_bad h, Bool.and_false]
set_option maxHeartbeats 1600000 in
theorem one_spec (id ze : Int) (nm : ByteArray) (A : Option Addr) (n c : Nat) (l : List (Int × Int)) (w : World) (hs : Spots w w.heap.size A n l) (hm : n ≤ maxLen) (hn : nm.size ≤ maxLen) :
    Calls Try.prog 85 #[.agg #[.int .i64 id, .string nm, .int .i64 ze, .slice A n c]] w fun e w' => e = .returned (.bool (gaugeB id nm ze l)) ∧ Below w.heap.size w w' := by
  have HL := Lib.hid hs.1
  have HX := Lib.hid (box1 (cs := #[.int .i64 id, .string nm, .int .i64 ze, .slice A n c]) (T := 26) (Below.refl _ _) (w := w))
  unfold maxLen at hm
  go_enter Try.func85, Try.ntmps85
  go_wp2
  go_loopw [3] (fun i wr => ∃ k : Nat, k ≤ n ∧ i = .int .i64 k ∧ Hid (goodK l k = true) ∧ Hid (Below w.heap.size w wr ∧ Has wr w.heap.size [.int .i64 id, .string nm, .int .i64 ze, .slice A n c])) (fun i _ => n - (intOf i).toNat)
  case atStart => exact ⟨0, Nat.zero_le _, rfl, by simp [Hid, goodK], HX⟩
  case round =>
    obtain ⟨k, hk, rfl, hA, hB⟩ := hrel
    clear HX
    have g0 := hB.out.2.at_ 0 _ rfl
    have g1 := hB.out.2.at_ 1 _ rfl
    have g2 := hB.out.2.at_ 2 _ rfl
    have g3 := hB.out.2.at_ 3 _ rfl
    by_cases hlt : k < n
    · obtain ⟨b, o, x, y, rfl, hbl, hlk, hc0, hc1⟩ := (hs.on hB.out.1 (Nat.le_refl _)).2 k hlt
      have HK := Lib.hid hlk
      clear hlk
      obtain ⟨W0, hW0⟩ : ∃ W0, W0 = wr.alloc (.cells #[.int .i64 x, .int .i64 y] 34) := ⟨_, rfl⟩
      have HW : Hid (Below wr.heap.size wr W0 ∧ Has W0 wr.heap.size [.int .i64 x, .int .i64 y]) := by rw [hW0]; exact box1 (Below.refl _ _)
      have HB0 := Lib.hid (And.intro (bthen hB.out.1 HW.out.1 hB.out.1.size) (hB.out.2.next HW.out.1))
      have a0 := HW.out.2.at_ 0 _ rfl
      have a1 := HW.out.2.at_ 1 _ rfl
      have HE := Lib.hid hW0
      clear hW0
      go_wp2_with fail
      rw [← HE.out]
      have g3' := HB0.out.2.at_ 3 _ rfl
      rcases ht : inB x 0 10000 with _ | _
      · have HT := Lib.hid ht
        have HR := Lib.hid (goodK_bad (l := l) (n := l.length) (by have := HL.out; omega) (step_bad HK.out (by unfold readP; rw [ht]; rfl)))
        clear ht
        have HF := Lib.hid (gaugeB_bad id nm ze HR.out)
        have lc0 := lcell (a0)
        have lc1 := lcell (a1)
        have lc2 := lcell (g3')
        refine region_later (W := W0) (by kernel_rfl) (by kernel_rfl) (Below.refl _ _) ?_
        repeat (go_big_quiet_step (((first | (go_at_call 153; exact later_same (time_spec _ _ HT.out _)) | (go_at_call 111; exact later_same (l1In_v _ _ _ _ HV.out _))))))
        refine wpQuiet_nil ?_
        intro W1 hW1
        have HL : Hid (Below W0.heap.size W0 W1) := by obtain ⟨x, rfl⟩ := hW1; exact Lib.hid x.below
        clear hW1 lc0 lc1 lc2
        have HT := Lib.hid (bthen HB0.out.1 HL.out HB0.out.1.size)
        go_wp2_with fail
        go_ret
        exact ⟨ret_bool HF.out.symm, HT.out⟩
      rcases hv : inB y (-500) 2000 with _ | _
      · have HT := Lib.hid ht
        have HV := Lib.hid hv
        have HR := Lib.hid (goodK_bad (l := l) (n := l.length) (by have := HL.out; omega) (step_bad HK.out (by unfold readP; rw [ht, hv]; rfl)))
        clear ht hv
        have HF := Lib.hid (gaugeB_bad id nm ze HR.out)
        have lc0 := lcell (a0)
        have lc1 := lcell (a1)
        have lc2 := lcell (g3')
        refine region_later (W := W0) (by kernel_rfl) (by kernel_rfl) (Below.refl _ _) ?_
        repeat (go_big_quiet_step (((first | (go_at_call 153; exact later_same (time_spec _ _ HT.out _)) | (go_at_call 111; exact later_same (l1In_v _ _ _ _ HV.out _))))))
        refine wpQuiet_nil ?_
        intro W1 hW1
        have HL : Hid (Below W0.heap.size W0 W1) := by obtain ⟨x, rfl⟩ := hW1; exact Lib.hid x.below
        clear hW1 lc0 lc1 lc2
        have HT := Lib.hid (bthen HB0.out.1 HL.out HB0.out.1.size)
        go_wp2_with fail
        go_ret
        exact ⟨ret_bool HF.out.symm, HT.out⟩
      have HT := Lib.hid ht
      have HV := Lib.hid hv
      have HP : Hid (readP x y = true) := by unfold Hid readP; rw [ht, hv]; rfl
      clear ht hv
      rcases k with _ | j
      · have HR : Hid (goodK l (0 + 1) = true) := by unfold Hid; rw [goodK_succ, hA.out, step_zero HK.out HP.out]; rfl
        have lc0 := lcell (a0)
        have lc1 := lcell (a1)
        have lc2 := lcell (g3')
        refine region_later (W := W0) (by kernel_rfl) (by kernel_rfl) (Below.refl _ _) ?_
        repeat (go_big_quiet_step (((first | (go_at_call 153; exact later_same (time_spec _ _ HT.out _)) | (go_at_call 111; exact later_same (l1In_v _ _ _ _ HV.out _))))))
        refine wpQuiet_nil ?_
        intro W1 hW1
        have HL : Hid (Below W0.heap.size W0 W1) := by obtain ⟨x, rfl⟩ := hW1; exact Lib.hid x.below
        clear hW1 lc0 lc1 lc2
        have HN := Lib.hid (And.intro (bthen HB0.out.1 HL.out HB0.out.1.size) (HB0.out.2.next HL.out))
        go_wp2_with fail
        go_roundw
        case rel => exact ⟨1, by omega, by go_num, HR, HN⟩
        case measure => simp [intOf]; omega
      · obtain ⟨b', o', x', y', hA', hb', hl', d0, d1⟩ := (hs.on hB.out.1 (Nat.le_refl _)).2 j (by omega)
        obtain ⟨rfl, rfl⟩ : b = b' ∧ o = o' := by injection hA' with h; injection h with h h'; exact ⟨h, h'⟩
        have e0 := cell_next HW.out.1 d0
        have HS := Lib.hid (step_at HK.out hl' HP.out)
        clear hA' hl' d0 d1
        by_cases hx : x ≤ x'
        · have HR := Lib.hid (goodK_bad (l := l) (n := l.length) (k := j + 1) (by have := HL.out; omega) (by rw [HS.out]; exact decide_eq_false (by omega)))
          have HF := Lib.hid (gaugeB_bad id nm ze HR.out)
          have hd : decide (x ≤ x') = true := decide_eq_true hx
          have lc0 := lcell (a0)
          have lc1 := lcell (a1)
          have lc2 := lcell (g3')
          have lc3 := lcell (e0)
          refine region_later (W := W0) (by kernel_rfl) (by kernel_rfl) (Below.refl _ _) ?_
          repeat (go_big_quiet_step (((first | (go_at_call 153; exact later_same (time_spec _ _ HT.out _)) | (go_at_call 111; exact later_same (l1In_v _ _ _ _ HV.out _))))))
          refine wpQuiet_nil ?_
          intro W1 hW1
          have HL : Hid (Below W0.heap.size W0 W1) := by obtain ⟨x, rfl⟩ := hW1; exact Lib.hid x.below
          clear hW1 lc0 lc1 lc2 lc3
          have HT := Lib.hid (bthen HB0.out.1 HL.out HB0.out.1.size)
          go_wp2_with fail
          go_ret
          exact ⟨ret_bool HF.out.symm, HT.out⟩
        · have HR : Hid (goodK l (j + 1 + 1) = true) := by unfold Hid; rw [goodK_succ, hA.out, HS.out]; exact decide_eq_true (by omega)
          have hd : decide (x ≤ x') = false := decide_eq_false hx
          have lc0 := lcell (a0)
          have lc1 := lcell (a1)
          have lc2 := lcell (g3')
          have lc3 := lcell (e0)
          refine region_later (W := W0) (by kernel_rfl) (by kernel_rfl) (Below.refl _ _) ?_
          repeat (go_big_quiet_step (((first | (go_at_call 153; exact later_same (time_spec _ _ HT.out _)) | (go_at_call 111; exact later_same (l1In_v _ _ _ _ HV.out _))))))
          refine wpQuiet_nil ?_
          intro W1 hW1
          have HL : Hid (Below W0.heap.size W0 W1) := by obtain ⟨x, rfl⟩ := hW1; exact Lib.hid x.below
          clear hW1 lc0 lc1 lc2 lc3
          have HN := Lib.hid (And.intro (bthen HB0.out.1 HL.out HB0.out.1.size) (HB0.out.2.next HL.out))
          go_wp2_with fail
          go_roundw
          case rel => exact ⟨j + 1 + 1, by omega, by go_num, HR, HN⟩
          case measure => simp [intOf]; omega
    · obtain rfl : k = n := by omega
      have HG : Hid (goodK l l.length = true) := by unfold Hid; rw [HL.out]; exact hA.out
      rcases h1 : inB id 1 99 with _ | _
      · have HR : Hid (gaugeB id nm ze l = false) := by unfold Hid gaugeB; rw [h1]; simp
        have H1 := Lib.hid h1
        clear h1
        go_wp2_with fail
        refine (l1In_v _ _ _ _ H1.out _).mono ?_
        rintro e w' ⟨rfl, rfl⟩
        go_wp2_with fail
        go_ret
        exact ⟨ret_bool HR.out.symm, hB.out.1⟩
      rcases h2 : wordB nm with _ | _
      · have HR : Hid (gaugeB id nm ze l = false) := by unfold Hid gaugeB; rw [h1, h2]; simp
        have H1 := Lib.hid h1
        have H2 := Lib.hid h2
        clear h1 h2
        go_wp2_with fail
        refine (l1In_v _ _ _ _ H1.out _).mono ?_
        rintro e w' ⟨rfl, rfl⟩
        go_wp2_with fail
        refine (word_v _ _ H2.out _ hn).mono ?_
        rintro e w' ⟨rfl, rfl⟩
        go_wp2_with fail
        go_ret
        exact ⟨ret_bool HR.out.symm, hB.out.1⟩
      rcases h3 : inB ze (-1000) 1000 with _ | _
      · have HR : Hid (gaugeB id nm ze l = false) := by unfold Hid gaugeB; rw [h1, h2, h3]; simp
        have H1 := Lib.hid h1
        have H2 := Lib.hid h2
        have H3 := Lib.hid h3
        clear h1 h2 h3
        go_wp2_with fail
        refine (l1In_v _ _ _ _ H1.out _).mono ?_
        rintro e w' ⟨rfl, rfl⟩
        go_wp2_with fail
        refine (word_v _ _ H2.out _ hn).mono ?_
        rintro e w' ⟨rfl, rfl⟩
        go_wp2_with fail
        refine (l1In_v _ _ _ _ H3.out _).mono ?_
        rintro e w' ⟨rfl, rfl⟩
        go_wp2_with fail
        go_ret
        exact ⟨ret_bool HR.out.symm, hB.out.1⟩
      by_cases h15 : (k : Int) ≤ 15
      · have HR : Hid (gaugeB id nm ze l = true) := by unfold Hid gaugeB; rw [h1, h2, h3, readsB_good HG.out (by have := HL.out; omega)]; rfl
        have H1 := Lib.hid h1
        have H2 := Lib.hid h2
        have H3 := Lib.hid h3
        clear h1 h2 h3
        go_wp2_with fail
        refine (l1In_v _ _ _ _ H1.out _).mono ?_
        rintro e w' ⟨rfl, rfl⟩
        go_wp2_with fail
        refine (word_v _ _ H2.out _ hn).mono ?_
        rintro e w' ⟨rfl, rfl⟩
        go_wp2_with fail
        refine (l1In_v _ _ _ _ H3.out _).mono ?_
        rintro e w' ⟨rfl, rfl⟩
        go_wp2_with fail
        go_ret
        exact ⟨ret_bool HR.out.symm, hB.out.1⟩
      · have HR : Hid (gaugeB id nm ze l = false) := by unfold Hid gaugeB; rw [readsB_long (l := l) (by have := HL.out; omega)]; simp
        have H1 := Lib.hid h1
        have H2 := Lib.hid h2
        have H3 := Lib.hid h3
        clear h1 h2 h3
        go_wp2_with fail
        refine (l1In_v _ _ _ _ H1.out _).mono ?_
        rintro e w' ⟨rfl, rfl⟩
        go_wp2_with fail
        refine (word_v _ _ H2.out _ hn).mono ?_
        rintro e w' ⟨rfl, rfl⟩
        go_wp2_with fail
        refine (l1In_v _ _ _ _ H3.out _).mono ?_
        rintro e w' ⟨rfl, rfl⟩
        go_wp2_with fail
        go_ret
        exact ⟨ret_bool (by first | exact HR.out.symm | exact (decide_eq_false (by omega)).trans HR.out.symm), hB.out.1⟩
theorem isGauge_v (id ze : Int) (nm : ByteArray) (A : Option Addr) (n c : Nat) (l : List (Int × Int)) (v : Bool) (h : gaugeB id nm ze l = v) (w : World) (hs : Spots w w.heap.size A n l) (hm : n ≤ maxLen) (hn : nm.size ≤ maxLen) :
    Calls Try.prog 84 #[.agg #[.int .i64 id, .string nm, .int .i64 ze, .slice A n c]] w fun e w' => e = .returned (.bool v) ∧ Below w.heap.size w w' := h ▸ isGauge_impl id ze nm A n c l w hs hm hn
theorem one_v (id ze : Int) (nm : ByteArray) (A : Option Addr) (n c : Nat) (l : List (Int × Int)) (v : Bool) (h : gaugeB id nm ze l = v) (w : World) (hs : Spots w w.heap.size A n l) (hm : n ≤ maxLen) (hn : nm.size ≤ maxLen) :
    Calls Try.prog 85 #[.agg #[.int .i64 id, .string nm, .int .i64 ze, .slice A n c]] w fun e w' => e = .returned (.bool v) ∧ Below w.heap.size w w' := h ▸ one_spec id ze nm A n c l w hs hm hn
end Go.Proofs.Ytdmnkmdlochogaa
