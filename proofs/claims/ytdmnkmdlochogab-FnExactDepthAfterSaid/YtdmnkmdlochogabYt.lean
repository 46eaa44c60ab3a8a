/-
  Whole depths and slopes: contracts of spec.l6Total, impl.TotalDepth, spec.TotalDepth, impl.reachDown, impl.isSlope, spec.l6Slope over this translation. Conditions: stated at each theorem.
-/
import Derived.Test.YtdmnkmdlochogabYv
namespace Go.Proofs.Ytdmnkmdlochogab
open Go.RowKit

set_option maxHeartbeats 1600000 in
theorem total_spec (A : Option Addr) (n c : Nat) (l : List (Int × Int)) (v : Int) (h : thk l = v) (w : World) (hs : Spots w w.heap.size A n l) (hg : Good l) (h5 : l.length ≤ 6) :
    Calls Try.prog 111 #[.slice A n c] w fun e w' => e = .returned (.int .i64 v) ∧ w = w' := by
  obtain rfl := hs.1
  subst h
  have HS := Lib.hid hs
  have HG := Lib.hid hg
  clear hs hg
  go_enter Try.func111, Try.ntmps111
  go_wp2
  go_loop [3, 4] (fun s i => ∃ (k : Nat) (v : Int), k ≤ l.length ∧ i = .int .i64 k ∧ s = .int .i64 v ∧ 0 ≤ v ∧ v ≤ 5000 * k ∧ Hid (thk (l.take k) = v)) (fun _ i => l.length - (intOf i).toNat)
  case atStart => exact ⟨0, 0, Nat.zero_le _, rfl, rfl, by omega, by omega, rfl⟩
  case round =>
    obtain ⟨k, v, hk, rfl, rfl, hv0, hv1, hA⟩ := hrel
    by_cases hlt : k < l.length
    · obtain ⟨b, o, x, y, rfl, hbl, hlk, hc0, hc1⟩ := HS.out.2 k hlt
      have hx := HG.out.at_ hlk
      obtain ⟨hx, _⟩ := hx
      have HV : Hid (thk (l.take (k + 1)) = v + x) := by unfold Hid; rw [thk_take hlk, hA.out]
      clear hlk
      go_wp2_with fail
      go_round
      case rel => exact ⟨k + 1, v + x, by omega, by go_num, by go_num, by omega, by omega, HV⟩
      case measure => simp [intOf]; omega
    · have HR : Hid (thk l = v) := by
        have h1 := hA.out
        obtain rfl : k = l.length := by omega
        rw [List.take_length] at h1
        exact h1
      go_wp2_with fail
      go_ret
      exact ⟨ret_int HR.out.symm, rfl⟩
/-- The whole depth, where there is one. -/
def tdN (l : List (Int × Int)) : Int := if strB l then thk l else 0
def TdPost (l : List (Int × Int)) (w : World) (e : Ending) (w' : World) : Prop := e = .returned (.tuple #[.int .i64 (tdN l), .bool (strB l)]) ∧ Below w.heap.size w w'
theorem td_no {l : List (Int × Int)} {w w' : World} (h : strB l = false) (hb : Below w.heap.size w w') : TdPost l w (.returned (.tuple #[.int .i64 0, .bool false])) w' := by
  unfold TdPost tdN; rw [h]; exact ⟨rfl, hb⟩
theorem td_yes {l : List (Int × Int)} {v : Int} {w w' : World} (h : strB l = true) (hv : thk l = v) (hb : Below w.heap.size w w') : TdPost l w (.returned (.tuple #[.int .i64 v, .bool true])) w' := by
  unfold TdPost tdN; rw [h, if_pos rfl, hv]; exact ⟨rfl, hb⟩
set_option maxHeartbeats 1600000 in
theorem totalD_impl (A : Option Addr) (n c : Nat) (l : List (Int × Int)) (w : World) (hs : Spots w w.heap.size A n l) (hm : n ≤ maxLen) :
    Calls Try.prog 41 #[.slice A n c] w (TdPost l w) := by
  obtain rfl := hs.1
  have HS := Lib.hid hs
  clear hs
  rcases hv : strB l with _ | _
  · have HV := Lib.hid hv
    clear hv
    go_enter Try.func41, Try.ntmps41
    go_wp2_with fail
    refine (areSt_v _ _ _ l _ HV.out _ HS.out hm).mono ?_
    rintro e w1 ⟨rfl, hb⟩
    have HB := Lib.hid hb
    clear hb
    go_wp2_with fail
    go_ret2
    exact td_no HV.out HB.out
  have HV := Lib.hid hv
  have HG := Lib.hid (str_parts hv).2
  have h5 := (str_parts hv).1
  obtain ⟨h51, h52⟩ := h5
  clear hv
  go_enter Try.func41, Try.ntmps41
  go_wp2_with fail
  refine (areSt_v _ _ _ l _ HV.out _ HS.out hm).mono ?_
  rintro e w1 ⟨rfl, hb⟩
  have HB := Lib.hid hb
  clear hb
  go_wp2_with fail
  go_loopw [4, 12] (fun s i wr => ∃ (k : Nat) (v : Int), k ≤ l.length ∧ i = .int .i64 k ∧ s = .int .i64 v ∧ 0 ≤ v ∧ v ≤ 5000 * k ∧ Hid (thk (l.take k) = v) ∧ Hid (Below w.heap.size w wr)) (fun _ i _ => l.length - (intOf i).toNat)
  case atStart => exact ⟨0, 0, Nat.zero_le _, rfl, rfl, by omega, by omega, rfl, HB⟩
  case round =>
    obtain ⟨k, v, hk, rfl, rfl, hv0, hv1, hA, hB⟩ := hrel
    by_cases hlt : k < l.length
    · obtain ⟨b, o, x, y, rfl, hbl, hlk, hc0, hc1⟩ := (HS.out.on hB.out (Nat.le_refl _)).2 k hlt
      have hx := HG.out.at_ hlk
      obtain ⟨hx, _⟩ := hx
      have HV2 : Hid (thk (l.take (k + 1)) = v + x) := by unfold Hid; rw [thk_take hlk, hA.out]
      clear hlk
      have HB2 := Lib.hid (bthen hB.out (box1 (cs := #[.int .i64 x, .int .i64 y]) (T := 125) (Below.refl _ _) (w := wr)).1 hB.out.size)
      go_wp2_with fail
      go_roundw
      case rel => exact ⟨k + 1, v + x, by omega, by go_num, by go_num, by omega, by omega, HV2, HB2⟩
      case measure => simp [intOf]; omega
    · have HR : Hid (thk l = v) := by
        have h1 := hA.out
        obtain rfl : k = l.length := by omega
        rw [List.take_length] at h1
        exact h1
      go_wp2_with fail
      go_ret2
      exact td_yes HV.out HR.out hB.out
theorem totalD_spec (A : Option Addr) (n c : Nat) (l : List (Int × Int)) (w : World) (hs : Spots w w.heap.size A n l) (hm : n ≤ maxLen) :
    Calls Try.prog 49 #[.slice A n c] w (TdPost l w) := by
  have HS := Lib.hid hs
  clear hs
  rcases hv : strB l with _ | _
  · have HV := Lib.hid hv
    clear hv
    go_enter Try.func49, Try.ntmps49
    go_wp2_with fail
    refine (goodS_v _ _ _ l _ HV.out _ HS.out hm).mono ?_
    rintro e w1 ⟨rfl, rfl⟩
    go_wp2_with fail
    go_ret2
    exact td_no HV.out (Below.refl _ _)
  have HV := Lib.hid hv
  have HG := Lib.hid (str_parts hv).2
  have h5 := (str_parts hv).1.2
  clear hv
  go_enter Try.func49, Try.ntmps49
  go_wp2_with fail
  refine (goodS_v _ _ _ l _ HV.out _ HS.out hm).mono ?_
  rintro e w1 ⟨rfl, rfl⟩
  go_wp2_with fail
  refine (total_spec _ _ _ l _ rfl _ HS.out HG.out (by omega)).mono ?_
  rintro e w1 ⟨rfl, rfl⟩
  go_wp2_with fail
  go_ret2
  exact td_yes HV.out rfl (Below.refl _ _)
theorem totalD_v (A : Option Addr) (n c : Nat) (l : List (Int × Int)) (v : Int) (k : Bool) (hv : tdN l = v) (hk : strB l = k) (w : World) (hs : Spots w w.heap.size A n l) (hm : n ≤ maxLen) :
    Calls Try.prog 41 #[.slice A n c] w fun e w' => e = .returned (.tuple #[.int .i64 v, .bool k]) ∧ Below w.heap.size w w' := by
  subst hv hk; exact totalD_impl A n c l w hs hm

/-! ### Is a depth within the layers? Is there such a slope? -/
def reB (l : List (Int × Int)) (d : Int) : Bool := strB l && inB d 0 (thk l)
theorem reach_impl (A : Option Addr) (n c : Nat) (l : List (Int × Int)) (d : Int) (v : Bool) (h : reB l d = v) (w : World) (hs : Spots w w.heap.size A n l) (hm : n ≤ maxLen) :
    Calls Try.prog 105 #[.slice A n c, .int .i64 d] w fun e w' => e = .returned (.bool v) ∧ Below w.heap.size w w' := by
  subst h
  have HS := Lib.hid hs
  clear hs
  rcases hv : strB l with _ | _
  · have HV : Hid (tdN l = 0 ∧ strB l = false) := by unfold Hid tdN; rw [hv]; exact ⟨rfl, rfl⟩
    have HR : Hid (reB l d = false) := by unfold Hid reB; rw [hv]; rfl
    clear hv
    go_enter Try.func105, Try.ntmps105
    go_wp2_with fail
    refine (totalD_v _ _ _ l _ _ HV.out.1 HV.out.2 _ HS.out hm).mono ?_
    rintro e w1 ⟨rfl, hb⟩
    have HB := Lib.hid hb
    clear hb
    go_wp2_with fail
    go_ret
    exact ⟨ret_bool HR.out.symm, HB.out⟩
  · have HV : Hid (tdN l = thk l ∧ strB l = true) := by unfold Hid tdN; rw [hv]; exact ⟨rfl, rfl⟩
    obtain ⟨T, hT⟩ : ∃ T, T = thk l := ⟨_, rfl⟩
    have HR : Hid (reB l d = inB d 0 T) := by unfold Hid reB; rw [hv, hT]; rfl
    rw [← hT] at HV
    clear hv hT
    go_enter Try.func105, Try.ntmps105
    go_wp2_with fail
    refine (totalD_v _ _ _ l _ _ HV.out.1 HV.out.2 _ HS.out hm).mono ?_
    rintro e w1 ⟨rfl, hb⟩
    have HB := Lib.hid hb
    clear hb
    go_wp2_with fail
    refine (within_any _ _ _ _).mono ?_
    rintro e w' ⟨rfl, rfl⟩
    go_wp2_with fail
    go_ret
    exact ⟨ret_bool HR.out.symm, HB.out⟩
def slB (num den : Int) : Bool := inB num 0 200 && inB den 1 100 && decide (num ≤ 2 * den)
theorem sl_yes {num den : Int} (h : slB num den = true) : (0 ≤ num ∧ num ≤ 200) ∧ (1 ≤ den ∧ den ≤ 100) ∧ num ≤ 2 * den := by
  unfold slB at h
  simp only [Bool.and_eq_true, decide_eq_true_eq] at h
  exact ⟨inB_yes h.1.1, inB_yes h.1.2, h.2⟩
theorem slope_impl (num den : Int) (v : Bool) (h : slB num den = v) (w : World) :
    Calls Try.prog 106 #[.int .i64 num, .int .i64 den] w fun e w' => e = .returned (.bool v) ∧ w = w' := by
  subst h
  rcases h1 : inB num 0 200 with _ | _
  · have H1 := Lib.hid h1
    have HR : Hid (slB num den = false) := by unfold Hid slB; rw [h1]; rfl
    clear h1
    go_enter Try.func106, Try.ntmps106
    go_wp2_with fail
    refine (within_v _ _ _ _ H1.out _).mono ?_
    rintro e w' ⟨rfl, rfl⟩
    go_wp2_with fail
    go_ret
    exact ⟨ret_bool HR.out.symm, rfl⟩
  rcases h2 : inB den 1 100 with _ | _
  · have H1 := Lib.hid h1
    have H2 := Lib.hid h2
    have HR : Hid (slB num den = false) := by unfold Hid slB; rw [h1, h2]; rfl
    clear h1 h2
    go_enter Try.func106, Try.ntmps106
    go_wp2_with fail
    refine (within_v _ _ _ _ H1.out _).mono ?_
    rintro e w' ⟨rfl, rfl⟩
    go_wp2_with fail
    refine (within_v _ _ _ _ H2.out _).mono ?_
    rintro e w' ⟨rfl, rfl⟩
    go_wp2_with fail
    go_ret
    exact ⟨ret_bool HR.out.symm, rfl⟩
  have H1 := Lib.hid h1
  have H2 := Lib.hid h2
  have hb := inB_yes h2
  obtain ⟨hb1, hb2⟩ := hb
  have HR : Hid (slB num den = decide (num ≤ 2 * den)) := by unfold Hid slB; rw [h1, h2]; rfl
  clear h1 h2
  go_enter Try.func106, Try.ntmps106
  go_wp2_with fail
  refine (within_v _ _ _ _ H1.out _).mono ?_
  rintro e w' ⟨rfl, rfl⟩
  go_wp2_with fail
  refine (within_v _ _ _ _ H2.out _).mono ?_
  rintro e w' ⟨rfl, rfl⟩
  go_wp2_with fail
  go_ret
  exact ⟨ret_bool HR.out.symm, rfl⟩
theorem slope_spec (A : Option Addr) (n c : Nat) (l : List (Int × Int)) (num den : Int) (v : Bool) (h : (strB l && slB num den) = v) (w : World) (hs : Spots w w.heap.size A n l) (hm : n ≤ maxLen) :
    Calls Try.prog 110 #[.slice A n c, .int .i64 num, .int .i64 den] w fun e w' => e = .returned (.bool v) ∧ w = w' := by
  subst h
  have HS := Lib.hid hs
  clear hs
  rcases hv : strB l with _ | _
  · have HV := Lib.hid hv
    clear hv
    go_enter Try.func110, Try.ntmps110
    go_wp2_with fail
    refine (goodS_v _ _ _ l _ HV.out _ HS.out hm).mono ?_
    rintro e w' ⟨rfl, rfl⟩
    go_wp2_with fail
    go_ret
    exact ⟨rfl, rfl⟩
  have HV := Lib.hid hv
  clear hv
  rcases h1 : inB num 0 200 with _ | _
  · have H1 := Lib.hid h1
    have HR : Hid ((true && slB num den) = false) := by unfold Hid slB; rw [h1]; rfl
    clear h1
    go_enter Try.func110, Try.ntmps110
    go_wp2_with fail
    refine (goodS_v _ _ _ l _ HV.out _ HS.out hm).mono ?_
    rintro e w' ⟨rfl, rfl⟩
    go_wp2_with fail
    refine (l1In_v _ _ _ _ H1.out _).mono ?_
    rintro e w' ⟨rfl, rfl⟩
    go_wp2_with fail
    go_ret
    exact ⟨ret_bool HR.out.symm, rfl⟩
  rcases h2 : inB den 1 100 with _ | _
  · have H1 := Lib.hid h1
    have H2 := Lib.hid h2
    have HR : Hid ((true && slB num den) = false) := by unfold Hid slB; rw [h1, h2]; rfl
    clear h1 h2
    go_enter Try.func110, Try.ntmps110
    go_wp2_with fail
    refine (goodS_v _ _ _ l _ HV.out _ HS.out hm).mono ?_
    rintro e w' ⟨rfl, rfl⟩
    go_wp2_with fail
    refine (l1In_v _ _ _ _ H1.out _).mono ?_
    rintro e w' ⟨rfl, rfl⟩
    go_wp2_with fail
    refine (l1In_v _ _ _ _ H2.out _).mono ?_
    rintro e w' ⟨rfl, rfl⟩
    go_wp2_with fail
    go_ret
    exact ⟨ret_bool HR.out.symm, rfl⟩
  have H1 := Lib.hid h1
  have H2 := Lib.hid h2
  have hb := inB_yes h2
  obtain ⟨hb1, hb2⟩ := hb
  have HR : Hid ((true && slB num den) = decide (num ≤ 2 * den)) := by unfold Hid slB; rw [h1, h2]; rfl
  clear h1 h2
  go_enter Try.func110, Try.ntmps110
  go_wp2_with fail
  refine (goodS_v _ _ _ l _ HV.out _ HS.out hm).mono ?_
  rintro e w' ⟨rfl, rfl⟩
  go_wp2_with fail
  refine (l1In_v _ _ _ _ H1.out _).mono ?_
  rintro e w' ⟨rfl, rfl⟩
  go_wp2_with fail
  refine (l1In_v _ _ _ _ H2.out _).mono ?_
  rintro e w' ⟨rfl, rfl⟩
  go_wp2_with fail
  go_ret
  exact ⟨ret_bool HR.out.symm, rfl⟩
end Go.Proofs.Ytdmnkmdlochogab
