/-
  Coverage: contracts of spec.CoverageOf, CellsCovered, CellsIn, UncoveredIn over this translation. Conditions: stated at each theorem.
-/
import Derived.Test.YtagfgaohdpoegaaCd
namespace Go.Proofs.Ytagfgaohdpoegaa
open Go.RowKit
set_option linter.unusedVariables false

theorem rw_le400 (P : Nat → Nat → Bool) (r c : Nat) (hr : r ≤ 20) (hc : c ≤ 20) (h : r = 20 → c = 0) : clK P r + rwK P r c ≤ 400 := by
  have := clK_le P r
  have := rwK_le P r c
  omega
set_option maxHeartbeats 1600000 in
theorem coverage_spec (A : Option Addr) (n c0 : Nat) (L : List LN) (r c : Int) (w : World) (hs : SdsN w w.heap.size A n L) (hm : n ≤ maxLen) :
    Calls Try.prog 28 #[.slice A n c0, .int .i64 r, .int .i64 c] w (IntPost (cvR L r c) (cvK9 L r c) w) := by
  have HS := Lib.hid hs
  clear hs
  rcases h1 : lnsB L with _ | _
  · have H1 := Lib.hid h1
    have HR : Hid ((0 : Int) = cvR L r c ∧ false = cvK9 L r c) := by unfold Hid cvR cvK9; rw [h1]; exact ⟨rfl, rfl⟩
    clear h1
    go_enter Try.func28, Try.ntmps28
    go_wp2_with fail
    refine (lgood_spec_v A n c0 L _ H1.out _ HS.out hm).mono ?_
    rintro e w1 ⟨rfl, hb⟩
    have HX := Lib.hid hb
    clear hb
    go_wp2_with fail
    go_ret2
    exact int_post HR.out.1 HR.out.2 HX.out
  rcases h2 : ceB r c with _ | _
  · have H1 := Lib.hid h1
    have H2 := Lib.hid h2
    have HR : Hid ((0 : Int) = cvR L r c ∧ false = cvK9 L r c) := by unfold Hid cvR cvK9; rw [h1, h2]; exact ⟨rfl, rfl⟩
    clear h1 h2
    go_enter Try.func28, Try.ntmps28
    go_wp2_with fail
    refine (lgood_spec_v A n c0 L _ H1.out _ HS.out hm).mono ?_
    rintro e w1 ⟨rfl, hb⟩
    have HX := Lib.hid hb
    clear hb
    go_wp2_with fail
    refine (cell_spec r c _ H2.out _).mono ?_
    rintro e w' ⟨rfl, rfl⟩
    go_wp2_with fail
    go_ret2
    exact int_post HR.out.1 HR.out.2 HX.out
  have H1 := Lib.hid h1
  have H2 := Lib.hid h2
  have HG := Lib.hid (good9_of h1)
  obtain ⟨r', c', rfl, rfl, hr, hc⟩ : ∃ r' c' : Nat, r = r' ∧ c = c' ∧ r' < 20 ∧ c' < 20 := by
    unfold ceB at h2
    rw [Bool.and_eq_true] at h2
    have := inB_yes h2.1
    have := inB_yes h2.2
    exact ⟨r.toNat, c.toNat, by omega, by omega, by omega, by omega⟩
  have HR : Hid (((cvN L r' c' : Nat) : Int) = cvR L r' c' ∧ true = cvK9 L r' c') := by unfold Hid cvR cvK9; rw [h1, h2]; exact ⟨rfl, rfl⟩
  clear h1 h2
  go_enter Try.func28, Try.ntmps28
  go_wp2_with fail
  refine (lgood_spec_v A n c0 L _ H1.out _ HS.out hm).mono ?_
  rintro e w1 ⟨rfl, hb⟩
  have HX := Lib.hid hb
  clear hb
  go_wp2_with fail
  refine (cell_spec r' c' _ H2.out _).mono ?_
  rintro e w' ⟨rfl, rfl⟩
  go_wp2_with fail
  refine (count_spec A n c0 L r' c' _ rfl _ (sds_atN HS.out HX.out) HG.out hr hc).mono ?_
  rintro e w2 ⟨rfl, hb⟩
  have HY := Lib.hid (bthen HX.out hb HX.out.size)
  clear hb
  go_wp2_with fail
  go_ret2
  exact int_post HR.out.1 HR.out.2 HY.out
set_option maxHeartbeats 3200000 in
theorem covered_spec (A : Option Addr) (n c0 : Nat) (L : List LN) (t : Int) (w : World) (hs : SdsN w w.heap.size A n L) (hm : n ≤ maxLen) :
    Calls Try.prog 18 #[.slice A n c0, .int .i64 t] w (IntPost (coN L t) (coK L t) w) := by
  have HS := Lib.hid hs
  clear hs
  rcases h1 : lnsB L with _ | _
  · have H1 := Lib.hid h1
    have HR : Hid ((0 : Int) = coN L t ∧ false = coK L t) := by unfold Hid coN coK; rw [h1]; exact ⟨rfl, rfl⟩
    clear h1
    go_enter Try.func18, Try.ntmps18
    go_wp2_with fail
    refine (lgood_spec_v A n c0 L _ H1.out _ HS.out hm).mono ?_
    rintro e w1 ⟨rfl, hb⟩
    have HX := Lib.hid hb
    clear hb
    go_wp2_with fail
    go_ret2
    exact int_post HR.out.1 HR.out.2 HX.out
  rcases h2 : inB t 1 8 with _ | _
  · have H1 := Lib.hid h1
    have H2 := Lib.hid h2
    have HR : Hid ((0 : Int) = coN L t ∧ false = coK L t) := by unfold Hid coN coK; rw [h1, h2]; exact ⟨rfl, rfl⟩
    clear h1 h2
    go_enter Try.func18, Try.ntmps18
    go_wp2_with fail
    refine (lgood_spec_v A n c0 L _ H1.out _ HS.out hm).mono ?_
    rintro e w1 ⟨rfl, hb⟩
    have HX := Lib.hid hb
    clear hb
    go_wp2_with fail
    refine (l1In_v _ _ _ _ H2.out _).mono ?_
    rintro e w' ⟨rfl, rfl⟩
    go_wp2_with fail
    go_ret2
    exact int_post HR.out.1 HR.out.2 HX.out
  have H1 := Lib.hid h1
  have H2 := Lib.hid h2
  have HG := Lib.hid (good9_of h1)
  have HR : Hid (((clK (coP L t) 20 : Nat) : Int) = coN L t ∧ true = coK L t) := by unfold Hid coN coK; rw [h1, h2]; exact ⟨rfl, rfl⟩
  clear h1 h2
  go_enter Try.func18, Try.ntmps18
  go_wp2_with fail
  refine (lgood_spec_v A n c0 L _ H1.out _ HS.out hm).mono ?_
  rintro e w1 ⟨rfl, hb⟩
  have HX := Lib.hid hb
  clear hb
  go_wp2_with fail
  refine (l1In_v _ _ _ _ H2.out _).mono ?_
  rintro e w' ⟨rfl, rfl⟩
  go_wp2_with fail
  go_loopw [6, 7] (fun s i wr => ∃ r m : Nat, r ≤ 20 ∧ m ≤ 400 ∧ i = .int .i64 r ∧ s = .int .i64 m ∧ Hid (m = clK (coP L t) r) ∧ Hid (Below w.heap.size w wr)) (fun _ i _ => 20 - (intOf i).toNat)
  case atStart => exact ⟨0, 0, Nat.zero_le _, Nat.zero_le _, rfl, rfl, Lib.hid rfl, HX⟩
  case round =>
    obtain ⟨r, m0, hr, hm0, rfl, rfl, hM0, hI0⟩ := hrel
    by_cases hlr : r < 20
    · have HMS : Hid (m0 = clK (coP L t) r + rwK (coP L t) r 0) := Lib.hid hM0.out
      go_wp2_with fail
      refine (side_spec _).mono ?_
      rintro e w' ⟨rfl, rfl⟩
      go_wp2_with fail
      go_loopw [6, 8] (fun s i wr2 => ∃ q m : Nat, q ≤ 20 ∧ m ≤ 400 ∧ i = .int .i64 q ∧ s = .int .i64 m ∧ Hid (m = clK (coP L t) r + rwK (coP L t) r q) ∧ Hid (Below w.heap.size w wr2)) (fun _ i _ => 20 - (intOf i).toNat)
      case atStart => exact ⟨0, m0, Nat.zero_le _, hm0, rfl, rfl, HMS, hI0⟩
      case round =>
        obtain ⟨col, m, hc, hm1, rfl, rfl, hM, hI⟩ := hrel
        by_cases hlc : col < 20
        · obtain ⟨bb, hbb⟩ : ∃ bb, (coP L t) r col = bb := ⟨_, rfl⟩
          have HP := Lib.hid hbb
          clear hbb
          go_wp2_with fail
          refine (side_spec _).mono ?_
          rintro e w' ⟨rfl, rfl⟩
          go_wp2_with fail
          refine (count_spec A n c0 L r col _ rfl _ (sds_atN HS.out hI.out) HG.out hlr hlc).mono ?_
          rintro e w9 ⟨rfl, hb⟩
          have HI1 := Lib.hid (bthen hI.out hb hI.out.size)
          clear hb
          have hd : decide (t ≤ (cvN L r col : Int)) = bb := HP.out
          rcases bb with _ | _
          · have HMN : Hid (m = clK (coP L t) r + rwK (coP L t) r (col + 1)) := Lib.hid (by rw [(rwL_no HP.out).2]; exact hM.out)
            go_wp2_with fail
            go_roundw
            case rel => (repeat apply Exists.intro); rw [show decide ((r : Int) < 20) = true from decide_eq_true (by omega)]; exact ⟨⟨col + 1, m, by omega, hm1, by go_num, rfl, HMN, HI1⟩, rfl⟩
            case measure => simp [intOf]; omega
          · have HMN : Hid (m + 1 = clK (coP L t) r + rwK (coP L t) r (col + 1)) := Lib.hid (by rw [(rwL_yes HP.out).2, hM.out]; omega)
            have hmb : m + 1 ≤ 400 := by have := HMN.out; have := clK_le (coP L t) r; have := rwK_le (coP L t) r (col + 1); omega
            go_wp2_with fail
            go_roundw
            case rel => (repeat apply Exists.intro); rw [show decide ((r : Int) < 20) = true from decide_eq_true (by omega)]; exact ⟨⟨col + 1, m + 1, by omega, hmb, by go_num, by go_num, HMN, HI1⟩, rfl⟩
            case measure => simp [intOf]; omega
        · obtain rfl : col = 20 := by omega
          have HMN : Hid (m = clK (coP L t) (r + 1)) := Lib.hid hM.out
          go_wp2_with fail
          refine (side_spec _).mono ?_
          rintro e w' ⟨rfl, rfl⟩
          go_wp2_with fail
          go_roundw
          case rel => exact ⟨r + 1, m, by omega, hm1, by go_num, rfl, HMN, hI⟩
          case measure => simp [intOf]; omega
    · obtain rfl : r = 20 := by omega
      go_wp2_with fail
      refine (side_spec _).mono ?_
      rintro e w' ⟨rfl, rfl⟩
      go_wp2_with fail
      have HRR : Hid ((m0 : Int) = coN L t) := Lib.hid (by rw [hM0.out]; exact HR.out.1)
      go_ret2
      exact int_post HRR.out HR.out.2 hI0.out
set_option maxHeartbeats 3200000 in
theorem cellsIn_spec (a b c d : Int) (w : World) :
    Calls Try.prog 30 #[.agg #[.int .i64 a, .int .i64 b, .int .i64 c, .int .i64 d]] w (IntPost (inN a b c d) (boxB a b c d) w) := by
  rcases h1 : boxB a b c d with _ | _
  · have H1 := Lib.hid h1
    have HR : Hid ((0 : Int) = inN a b c d) := by unfold Hid inN; rw [h1]; rfl
    clear h1
    go_enter Try.func30, Try.ntmps30
    go_wp2_with fail
    refine (l2Box_any a b c d _).mono ?_
    rintro e w1 ⟨he, hb⟩
    rw [H1.out] at he
    subst he
    have HX := Lib.hid (box1 hb)
    clear hb
    go_wp2_with fail
    go_ret2
    exact int_post HR.out rfl HX.out.1
  have H1 := Lib.hid h1
  have HM := Lib.hid (box_mid h1)
  have HR : Hid (((clK (fun r col => whB a b c d r col) 20 : Nat) : Int) = inN a b c d) := by unfold Hid inN; rw [h1]; rfl
  clear h1
  go_enter Try.func30, Try.ntmps30
  go_wp2_with fail
  refine (l2Box_any a b c d _).mono ?_
  rintro e w1 ⟨he, hb⟩
  rw [H1.out] at he
  subst he
  have HX : Hid (Below w.heap.size w w1 ∧ Has w1 w.heap.size [.int .i64 a, .int .i64 b, .int .i64 c, .int .i64 d]) := Lib.hid (box1 hb)
  clear hb
  go_wp2_with fail
  go_loopw [4, 5] (fun s i wr => ∃ r m : Nat, r ≤ 20 ∧ m ≤ 400 ∧ i = .int .i64 r ∧ s = .int .i64 m ∧ Hid (m = clK (fun r col : Nat => whB a b c d r col) r) ∧ Hid (Below w.heap.size w wr ∧ Has wr w.heap.size [.int .i64 a, .int .i64 b, .int .i64 c, .int .i64 d])) (fun _ i _ => 20 - (intOf i).toNat)
  case atStart => exact ⟨0, 0, Nat.zero_le _, Nat.zero_le _, rfl, rfl, Lib.hid rfl, HX⟩
  case round =>
    obtain ⟨r, m0, hr, hm0, rfl, rfl, hM0, hI0⟩ := hrel
    by_cases hlr : r < 20
    · have HMS : Hid (m0 = clK (fun r col : Nat => whB a b c d r col) r + rwK (fun r col : Nat => whB a b c d r col) r 0) := Lib.hid hM0.out
      go_wp2_with fail
      refine (side_spec _).mono ?_
      rintro e w' ⟨rfl, rfl⟩
      go_wp2_with fail
      go_loopw [4, 6] (fun s i wr2 => ∃ q m : Nat, q ≤ 20 ∧ m ≤ 400 ∧ i = .int .i64 q ∧ s = .int .i64 m ∧ Hid (m = clK (fun r col : Nat => whB a b c d r col) r + rwK (fun r col : Nat => whB a b c d r col) r q) ∧ Hid (Below w.heap.size w wr2 ∧ Has wr2 w.heap.size [.int .i64 a, .int .i64 b, .int .i64 c, .int .i64 d])) (fun _ i _ => 20 - (intOf i).toNat)
      case atStart => exact ⟨0, m0, Nat.zero_le _, hm0, rfl, rfl, HMS, hI0⟩
      case round =>
        obtain ⟨col, m, hc, hm1, rfl, rfl, hM, hI⟩ := hrel
        by_cases hlc : col < 20
        · obtain ⟨bb, hbb⟩ : ∃ bb, (fun r col : Nat => whB a b c d r col) r col = bb := ⟨_, rfl⟩
          have HP := Lib.hid hbb
          clear hbb
          go_wp2_with fail
          refine (side_spec _).mono ?_
          rintro e w' ⟨rfl, rfl⟩
          obtain ⟨a0, a1, a2, a3⟩ := box_four hI.out.2
          go_wp2_with fail
          refine (whole_spec a b c d r col _ HP.out hlr hlc HM.out.1 HM.out.2.1 HM.out.2.2.1 HM.out.2.2.2 _).mono ?_
          rintro e w9 ⟨rfl, hb⟩
          have HI1 := Lib.hid (And.intro (bthen hI.out.1 hb hI.out.1.size) (hI.out.2.next hb))
          clear hb a0 a1 a2 a3
          rcases bb with _ | _
          · have HMN : Hid (m = clK (fun r col : Nat => whB a b c d r col) r + rwK (fun r col : Nat => whB a b c d r col) r (col + 1)) := Lib.hid (by rw [(rwL_no HP.out).2]; exact hM.out)
            go_wp2_with fail
            go_roundw
            case rel => (repeat apply Exists.intro); rw [show decide ((r : Int) < 20) = true from decide_eq_true (by omega)]; exact ⟨⟨col + 1, m, by omega, hm1, by go_num, rfl, HMN, HI1⟩, rfl⟩
            case measure => simp [intOf]; omega
          · have HMN : Hid (m + 1 = clK (fun r col : Nat => whB a b c d r col) r + rwK (fun r col : Nat => whB a b c d r col) r (col + 1)) := Lib.hid (by rw [(rwL_yes HP.out).2, hM.out]; omega)
            have hmb : m + 1 ≤ 400 := by have := HMN.out; have := clK_le (fun r col : Nat => whB a b c d r col) r; have := rwK_le (fun r col : Nat => whB a b c d r col) r (col + 1); omega
            go_wp2_with fail
            go_roundw
            case rel => (repeat apply Exists.intro); rw [show decide ((r : Int) < 20) = true from decide_eq_true (by omega)]; exact ⟨⟨col + 1, m + 1, by omega, hmb, by go_num, by go_num, HMN, HI1⟩, rfl⟩
            case measure => simp [intOf]; omega
        · obtain rfl : col = 20 := by omega
          have HMN : Hid (m = clK (fun r col : Nat => whB a b c d r col) (r + 1)) := Lib.hid hM.out
          go_wp2_with fail
          refine (side_spec _).mono ?_
          rintro e w' ⟨rfl, rfl⟩
          go_wp2_with fail
          go_roundw
          case rel => exact ⟨r + 1, m, by omega, hm1, by go_num, rfl, HMN, hI⟩
          case measure => simp [intOf]; omega
    · obtain rfl : r = 20 := by omega
      go_wp2_with fail
      refine (side_spec _).mono ?_
      rintro e w' ⟨rfl, rfl⟩
      go_wp2_with fail
      have HRR : Hid ((m0 : Int) = inN a b c d) := Lib.hid (by rw [hM0.out]; exact HR.out)
      go_ret2
      exact int_post HRR.out rfl hI0.out.1
set_option maxRecDepth 20000 in
set_option maxHeartbeats 6400000 in
theorem open_spec (A : Option Addr) (n c0 : Nat) (L : List LN) (a b c d : Int) (w : World) (hs : SdsN w w.heap.size A n L) (hm : n ≤ maxLen) :
    Calls Try.prog 23 #[.slice A n c0, .agg #[.int .i64 a, .int .i64 b, .int .i64 c, .int .i64 d]] w (PairsPost (opR L a b c d) (opK L a b c d) w) := by
  have HB0 := Lib.hid (box1 (w := w) (cs := #[.int .i64 a, .int .i64 b, .int .i64 c, .int .i64 d]) (T := 31) (Below.refl _ _))
  have HN0 : Hid (Acc w 40 2 [.int .i64 a, .int .i64 b, .int .i64 c, .int .i64 d] (.slice (some ⟨w.heap.size + 1, 0, none⟩) 0 0) 0 [] ((w.alloc (.cells #[.int .i64 a, .int .i64 b, .int .i64 c, .int .i64 d] 31)).alloc (.cells #[] 40))) := Lib.hid (by have h := acc_start 40 2 HB0.out.1 HB0.out.2; rwa [World.size_alloc] at h)
  have HS := Lib.hid hs
  have HS0 := Lib.hid (sds_atN hs HN0.out.2.1)
  clear hs
  obtain ⟨i0, hi, hz0, hz1, hz2⟩ := info_parts infoP2
  have HI := Lib.hid (And.intro hi (And.intro hz0 (And.intro hz1 hz2)))
  clear hi hz0 hz1 hz2
  rcases h1 : lnsB L with _ | _
  · have H1 := Lib.hid h1
    have HR : Hid (opR L a b c d = [] ∧ opK L a b c d = false) := by unfold Hid opR opK; rw [h1]; exact ⟨rfl, rfl⟩
    clear h1
    go_enter Try.func23, Try.ntmps23
    go_wp2_with fail
    refine (lgood_spec_v A n c0 L _ H1.out _ HS0.out hm).mono ?_
    rintro e w1 ⟨rfl, hb⟩
    have HX := Lib.hid (HN0.out.next hb)
    clear hb
    go_wp2_with fail
    go_ret2
    rw [HR.out.1, HR.out.2]
    exact pairs_of_acc (L := []) HX.out rfl
  rcases h2 : boxB a b c d with _ | _
  · have H1 := Lib.hid h1
    have H2 := Lib.hid h2
    have HR : Hid (opR L a b c d = [] ∧ opK L a b c d = false) := by unfold Hid opR opK; rw [h1, h2]; exact ⟨rfl, rfl⟩
    clear h1 h2
    go_enter Try.func23, Try.ntmps23
    go_wp2_with fail
    refine (lgood_spec_v A n c0 L _ H1.out _ HS0.out hm).mono ?_
    rintro e w1 ⟨rfl, hb⟩
    have HX := Lib.hid (HN0.out.next hb)
    clear hb
    obtain ⟨a0, a1, a2, a3⟩ := box_four HX.out.2.2
    go_wp2_with fail
    refine (l2Box_any a b c d _).mono ?_
    rintro e w2 ⟨he, hb⟩
    rw [H2.out] at he
    subst he
    have HX2 := Lib.hid (HX.out.next hb)
    clear hb
    go_wp2_with fail
    go_ret2
    rw [HR.out.1, HR.out.2]
    exact pairs_of_acc (L := []) HX2.out rfl
  have H1 := Lib.hid h1
  have H2 := Lib.hid h2
  have HG := Lib.hid (good9_of h1)
  have HM := Lib.hid (box_mid h2)
  have HR : Hid (opR L a b c d = clL (opP L a b c d) 20 ∧ opK L a b c d = true) := by unfold Hid opR opK; rw [h1, h2]; exact ⟨rfl, rfl⟩
  clear h1 h2
  go_enter Try.func23, Try.ntmps23
  go_wp2_with fail
  refine (lgood_spec_v A n c0 L _ H1.out _ HS0.out hm).mono ?_
  rintro e w1 ⟨rfl, hb⟩
  have HX := Lib.hid (HN0.out.next hb)
  clear hb
  obtain ⟨a0, a1, a2, a3⟩ := box_four HX.out.2.2
  go_wp2_with fail
  refine (l2Box_any a b c d _).mono ?_
  rintro e w2 ⟨he, hb⟩
  rw [H2.out] at he
  subst he
  have HX2 : Hid (Acc w 40 2 [.int .i64 a, .int .i64 b, .int .i64 c, .int .i64 d] (.slice (some ⟨w.heap.size + 1, 0, none⟩) 0 0) (clK (opP L a b c d) 0) (cells2 (clL (opP L a b c d) 0)) w2) := Lib.hid (HX.out.next hb)
  clear hb a0 a1 a2 a3
  go_wp2_with fail
  go_loopw [6, 7] (fun s i wr => ∃ (r : Nat) (v : Value), r ≤ 20 ∧ i = .int .i64 r ∧ s = v ∧ Hid (Acc w 40 2 [.int .i64 a, .int .i64 b, .int .i64 c, .int .i64 d] v (clK (opP L a b c d) r) (cells2 (clL (opP L a b c d) r)) wr)) (fun _ i _ => 20 - (intOf i).toNat)
  case atStart => exact ⟨0, _, Nat.zero_le _, rfl, rfl, HX2⟩
  case round =>
    obtain ⟨r, v, hr, rfl, hv, hR⟩ := hrel
    have hv' := hv.symm
    clear hv
    subst hv'
    by_cases hlr : r < 20
    · have HR0 : Hid (Acc w 40 2 [.int .i64 a, .int .i64 b, .int .i64 c, .int .i64 d] v (clK (opP L a b c d) r + rwK (opP L a b c d) r 0) (cells2 (clL (opP L a b c d) r ++ rwL (opP L a b c d) r 0)) wr) := by unfold Hid; rw [rwK, rwL, List.append_nil]; exact hR.out
      go_wp2_with fail
      refine (side_spec _).mono ?_
      rintro e w' ⟨rfl, rfl⟩
      go_wp2_with fail
      go_loopw [6, 8] (fun s i wr2 => ∃ (col : Nat) (v : Value), col ≤ 20 ∧ i = .int .i64 col ∧ s = v ∧ Hid (Acc w 40 2 [.int .i64 a, .int .i64 b, .int .i64 c, .int .i64 d] v (clK (opP L a b c d) r + rwK (opP L a b c d) r col) (cells2 (clL (opP L a b c d) r ++ rwL (opP L a b c d) r col)) wr2)) (fun _ i _ => 20 - (intOf i).toNat)
      case atStart => exact ⟨0, _, Nat.zero_le _, rfl, rfl, HR0⟩
      case round =>
        obtain ⟨col, v2, hc, rfl, hv, hC⟩ := hrel
        have hv' := hv.symm
        clear hv
        subst hv'
        obtain ⟨wq, hwq⟩ : ∃ wq : World, wq = wr := ⟨_, rfl⟩
        rw [← hwq] at hC ⊢
        clear hwq
        by_cases hlc : col < 20
        · obtain ⟨a0, a1, a2, a3⟩ := box_four hC.out.2.2
          rcases hw : whB a b c d r col with _ | _
          · have HW := Lib.hid hw
            have HP : Hid (opP L a b c d r col = false) := by unfold Hid opP; rw [hw]; rfl
            clear hw
            go_wp2_with fail
            refine (side_spec _).mono ?_
            rintro e w' ⟨rfl, rfl⟩
            go_wp2_with fail
            refine (whole_spec a b c d r col _ HW.out hlr hlc HM.out.1 HM.out.2.1 HM.out.2.2.1 HM.out.2.2.2 _).mono ?_
            rintro e w8 ⟨rfl, hb⟩
            have HC1 := Lib.hid (hC.out.next hb)
            clear hb a0 a1 a2 a3
            have HC2 : Hid (Acc w 40 2 [.int .i64 a, .int .i64 b, .int .i64 c, .int .i64 d] v2 (clK (opP L a b c d) r + rwK (opP L a b c d) r (col + 1)) (cells2 (clL (opP L a b c d) r ++ rwL (opP L a b c d) r (col + 1))) w8) := by unfold Hid; rw [(rwL_no HP.out).1, (rwL_no HP.out).2]; exact HC1.out
            go_wp2_with fail
            go_roundw
            case rel => (repeat apply Exists.intro); rw [show decide ((r : Int) < 20) = true from decide_eq_true (by omega)]; exact ⟨⟨col + 1, _, by omega, by go_num, rfl, HC2⟩, rfl⟩
            case measure => simp [intOf]; omega
          · have HW := Lib.hid hw
            rcases hz : decide ((cvN L r col : Int) = 0) with _ | _
            · have HZ := Lib.hid hz
              have HP : Hid (opP L a b c d r col = false) := by unfold Hid opP; rw [hw, hz]; rfl
              have hq : ¬ (cvN L r col : Int) = 0 := of_decide_eq_false hz
              clear hw hz
              go_wp2_with fail
              refine (side_spec _).mono ?_
              rintro e w' ⟨rfl, rfl⟩
              go_wp2_with fail
              refine (whole_spec a b c d r col _ HW.out hlr hlc HM.out.1 HM.out.2.1 HM.out.2.2.1 HM.out.2.2.2 _).mono ?_
              rintro e w8 ⟨rfl, hb⟩
              have HC1 := Lib.hid (hC.out.next hb)
              clear hb a0 a1 a2 a3
              go_wp2_with fail
              refine (count_spec A n c0 L r col _ rfl _ (sds_atN HS.out HC1.out.2.1) HG.out hlr hlc).mono ?_
              rintro e w9 ⟨rfl, hb⟩
              have HC9 := Lib.hid (HC1.out.next hb)
              clear hb
              have HC2 : Hid (Acc w 40 2 [.int .i64 a, .int .i64 b, .int .i64 c, .int .i64 d] v2 (clK (opP L a b c d) r + rwK (opP L a b c d) r (col + 1)) (cells2 (clL (opP L a b c d) r ++ rwL (opP L a b c d) r (col + 1))) w9) := by unfold Hid; rw [(rwL_no HP.out).1, (rwL_no HP.out).2]; exact HC9.out
              go_wp2_with fail
              go_roundw
              case rel => (repeat apply Exists.intro); rw [show decide ((r : Int) < 20) = true from decide_eq_true (by omega)]; exact ⟨⟨col + 1, _, by omega, by go_num, rfl, HC2⟩, rfl⟩
              case measure => simp [intOf]; omega
            · have HZ := Lib.hid hz
              have HP : Hid (opP L a b c d r col = true) := by unfold Hid opP; rw [hw, hz]; rfl
              have hq : (cvN L r col : Int) = 0 := of_decide_eq_true hz
              have hkb : clK (opP L a b c d) r + rwK (opP L a b c d) r col ≤ 400 := rw_le400 _ r col (by omega) (by omega) (by omega)
              clear hw hz
              go_wp2_with fail
              refine (side_spec _).mono ?_
              rintro e w' ⟨rfl, rfl⟩
              go_wp2_with fail
              refine (whole_spec a b c d r col _ HW.out hlr hlc HM.out.1 HM.out.2.1 HM.out.2.2.1 HM.out.2.2.2 _).mono ?_
              rintro e w8 ⟨rfl, hb⟩
              have HC1 := Lib.hid (hC.out.next hb)
              clear hb a0 a1 a2 a3
              go_wp2_with fail
              refine (count_spec A n c0 L r col _ rfl _ (sds_atN HS.out HC1.out.2.1) HG.out hlr hlc).mono ?_
              rintro e w9 ⟨rfl, hb⟩
              have HC9 := Lib.hid (HC1.out.next hb)
              clear hb
              go_wp2_with (at_builtin; go_loud (refine wpList_append_own _ rfl _ _ 34 rfl (w.heap.size + 1) 40 i0 (.agg #[.int .i64 0, .int .i64 0]) 2 16 Try.underlying34 HI.out.1 HI.out.2.1 HI.out.2.2.1 HI.out.2.2.2 rfl (by decide) _ _ _ rfl (HC9.out.1.alloc _) ⟨w9.heap.size, 0, none⟩ 1 1 [.int .i64 r, .int .i64 col] rfl rfl (two_new _ _ _ _) (by simp [Value.oneCell']) (by unfold maxLen; omega) (by omega) (by have := HC9.out.2.1.size; have := HC9.out.2.2.1; simp; omega) ?_; intro v' w5 hown' hgrow _; have HN := Lib.hid (HC9.out.step hown' hgrow); clear hown' hgrow))
              have HC2 : Hid (Acc w 40 2 [.int .i64 a, .int .i64 b, .int .i64 c, .int .i64 d] v' (clK (opP L a b c d) r + rwK (opP L a b c d) r (col + 1)) (cells2 (clL (opP L a b c d) r ++ rwL (opP L a b c d) r (col + 1))) w5) := by
                have h := HN.out
                rw [← cells2_snoc, List.append_assoc] at h
                unfold Hid; rw [(rwL_yes HP.out).1, (rwL_yes HP.out).2, ← Nat.add_assoc]; exact h
              go_roundw
              case rel => (repeat apply Exists.intro); rw [show decide ((r : Int) < 20) = true from decide_eq_true (by omega)]; exact ⟨⟨col + 1, _, by omega, by go_num, rfl, HC2⟩, rfl⟩
              case measure => simp [intOf]; omega
        · obtain rfl : col = 20 := by omega
          have HC2 : Hid (Acc w 40 2 [.int .i64 a, .int .i64 b, .int .i64 c, .int .i64 d] v2 (clK (opP L a b c d) (r + 1)) (cells2 (clL (opP L a b c d) (r + 1))) wq) := hC
          go_wp2_with fail
          refine (side_spec _).mono ?_
          rintro e w' ⟨rfl, rfl⟩
          go_wp2_with fail
          go_roundw
          case rel => exact ⟨r + 1, _, by omega, by go_num, rfl, HC2⟩
          case measure => simp [intOf]; omega
    · obtain rfl : r = 20 := by omega
      go_wp2_with fail
      refine (side_spec _).mono ?_
      rintro e w' ⟨rfl, rfl⟩
      go_wp2_with fail
      go_ret2
      rw [HR.out.1, HR.out.2]
      exact pairs_of_acc hR.out (clL_len _ 20)
end Go.Proofs.Ytagfgaohdpoegaa
