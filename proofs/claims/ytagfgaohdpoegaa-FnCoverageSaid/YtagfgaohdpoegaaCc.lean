/-
  Cells that are meant: contracts of the closures of impl.CellsCovered, CellsIn, UncoveredIn and of impl.cellsWhere with each over this translation. Conditions: stated at each theorem.
-/
import Derived.Test.YtagfgaohdpoegaaCb
namespace Go.Proofs.Ytagfgaohdpoegaa
open Go.RowKit
set_option linter.unusedVariables false

theorem rwL_yes {P : Nat → Nat → Bool} {r k : Nat} (h : P r k = true) : rwL P r (k + 1) = rwL P r k ++ [((r : Int), (k : Int))] ∧ rwK P r (k + 1) = rwK P r k + 1 := by rw [rwL, rwK, h]; exact ⟨rfl, rfl⟩
theorem rwL_no {P : Nat → Nat → Bool} {r k : Nat} (h : P r k = false) : rwL P r (k + 1) = rwL P r k ∧ rwK P r (k + 1) = rwK P r k := by rw [rwL, rwK, h]; exact ⟨List.append_nil _, rfl⟩
/-- The cells that have P, as a row of the call's own. -/
def CellsPost (P : Nat → Nat → Bool) (w : World) (e : Ending) (w' : World) : Prop :=
  ∃ A c, e = .returned (.slice A (clK P 20) c) ∧ Own2 w' w.heap.size w'.heap.size A (clK P 20) (clL P 20) ∧ Below w.heap.size w w'
theorem infoP2 : (Try.prog.info? 40).map (fun i => (i.zero, i.size, i.bytes)) = some (some (.agg #[.int .i64 0, .int .i64 0]), 2, 16) := by kernel_rfl
set_option maxRecDepth 20000 in
set_option maxHeartbeats 3200000 in
theorem where_covered (P : Nat → Nat → Bool) (q1 q2 : Value) (w : World)
    (hf : ∀ (W : World) (r c : Nat), Below w.heap.size w W → r < 20 → c < 20 → Calls Try.prog 64 #[.int .i64 r, .int .i64 c, q1, q2] W fun e w' => e = .returned (.bool (P r c)) ∧ Below W.heap.size W w') :
    Calls Try.prog 63 #[.func (.func 64) #[] #[q1, q2]] w (CellsPost P w) := by
  obtain ⟨i0, hi, hz0, hz1, hz2⟩ := info_parts infoP2
  have HI := Lib.hid (And.intro hi (And.intro hz0 (And.intro hz1 hz2)))
  clear hi hz0 hz1 hz2
  have HF := Lib.hid hf
  clear hf
  have HN0 : Hid (Col w 40 2 (.slice (some ⟨w.heap.size, 0, none⟩) 0 0) (clK P 0) (cells2 (clL P 0)) (w.alloc (.cells #[] 40))) := Lib.hid (col_start 40 2 (Below.refl _ _))
  go_enter Try.func63, Try.ntmps63
  go_wp2_with fail
  go_loopw [3, 7] (fun s i wr => ∃ (r : Nat) (v : Value), r ≤ 20 ∧ i = .int .i64 r ∧ s = v ∧ Hid (Col w 40 2 v (clK P r) (cells2 (clL P r)) wr)) (fun _ i _ => 20 - (intOf i).toNat)
  case atStart => exact ⟨0, _, Nat.zero_le _, rfl, rfl, HN0⟩
  case round =>
    obtain ⟨r, v, hr, rfl, rfl, hR⟩ := hrel
    by_cases hlr : r < 20
    · have HR0 : Hid (Col w 40 2 u3 (clK P r + rwK P r 0) (cells2 (clL P r ++ rwL P r 0)) wr) := by unfold Hid; rw [rwK, rwL, List.append_nil]; exact hR.out
      go_wp2_with fail
      go_loopw [3, 10] (fun s i wr2 => ∃ (c : Nat) (v : Value), c ≤ 20 ∧ i = .int .i64 c ∧ s = v ∧ Hid (Col w 40 2 v (clK P r + rwK P r c) (cells2 (clL P r ++ rwL P r c)) wr2)) (fun _ i _ => 20 - (intOf i).toNat)
      case atStart => exact ⟨0, _, Nat.zero_le _, rfl, rfl, HR0⟩
      case round =>
        obtain ⟨c, v2, hc, rfl, hv, hC⟩ := hrel
        have hv' := hv.symm
        clear hv
        subst hv'
        by_cases hlc : c < 20
        · obtain ⟨b, hb⟩ : ∃ b, P r c = b := ⟨_, rfl⟩
          have HP := Lib.hid hb
          go_wp2_with fail
          refine (HF.out _ r c hC.out.2 hlr hlc).mono ?_
          rintro e w1 ⟨he, hb1⟩
          rw [HP.out] at he
          subst he
          have HC1 := Lib.hid (hC.out.next hb1)
          clear hb1
          rcases b with _ | _
          · have HC2 : Hid (Col w 40 2 v2 (clK P r + rwK P r (c + 1)) (cells2 (clL P r ++ rwL P r (c + 1))) w1) := by unfold Hid; rw [(rwL_no HP.out).1, (rwL_no HP.out).2]; exact HC1.out
            go_wp2_with fail
            go_roundw
            case rel => (repeat apply Exists.intro); rw [show decide ((r : Int) < 20) = true from decide_eq_true (by omega)]; exact ⟨⟨c + 1, _, by omega, by go_num, rfl, HC2⟩, rfl⟩
            case measure => simp [intOf]; omega
          · have hkb : clK P r + rwK P r c ≤ 400 := by have := clK_le P r; have := rwK_le P r c; omega
            go_wp2_with (at_builtin; go_loud (refine wpList_append_own _ rfl _ _ 34 rfl w.heap.size 40 i0 (.agg #[.int .i64 0, .int .i64 0]) 2 16 Try.underlying34 HI.out.1 HI.out.2.1 HI.out.2.2.1 HI.out.2.2.2 rfl (by decide) _ _ _ rfl (HC1.out.1.alloc _) ⟨w1.heap.size, 0, none⟩ 1 1 [.int .i64 r, .int .i64 c] rfl rfl (two_new _ _ _ _) (by simp [Value.oneCell']) (by unfold maxLen; omega) (by omega) (by have := HC1.out.2.size; simp; omega) ?_; intro v' w5 hown' hgrow _; have HN := Lib.hid (HC1.out.step hown' hgrow); clear hown' hgrow))
            have HC2 : Hid (Col w 40 2 v' (clK P r + rwK P r (c + 1)) (cells2 (clL P r ++ rwL P r (c + 1))) w5) := by
              have h := HN.out
              rw [← cells2_snoc, List.append_assoc] at h
              unfold Hid; rw [(rwL_yes HP.out).1, (rwL_yes HP.out).2, ← Nat.add_assoc]; exact h
            go_roundw
            case rel => (repeat apply Exists.intro); rw [show decide ((r : Int) < 20) = true from decide_eq_true (by omega)]; exact ⟨⟨c + 1, _, by omega, by go_num, rfl, HC2⟩, rfl⟩
            case measure => simp [intOf]; omega
        · obtain rfl : c = 20 := by omega
          have HC2 : Hid (Col w 40 2 v2 (clK P (r + 1)) (cells2 (clL P (r + 1))) wr) := hC
          go_wp2_with fail
          go_roundw
          case rel => exact ⟨r + 1, _, by omega, by go_num, rfl, HC2⟩
          case measure => simp [intOf]; omega
    · obtain rfl : r = 20 := by omega
      obtain ⟨A, cp, rfl⟩ := own_slice hR.out.1
      have HP : Hid (CellsPost P w (.returned (.slice A (clK P 20) cp)) wr) := Lib.hid ⟨A, cp, rfl, own2_of_row hR.out.1 (clL_len P 20), hR.out.2⟩
      go_wp2_with fail
      go_ret
      exact HP.out
set_option maxRecDepth 20000 in
set_option maxHeartbeats 3200000 in
theorem where_whole (P : Nat → Nat → Bool) (q1 : Value) (w : World)
    (hf : ∀ (W : World) (r c : Nat), Below w.heap.size w W → r < 20 → c < 20 → Calls Try.prog 76 #[.int .i64 r, .int .i64 c, q1] W fun e w' => e = .returned (.bool (P r c)) ∧ Below W.heap.size W w') :
    Calls Try.prog 63 #[.func (.func 76) #[] #[q1]] w (CellsPost P w) := by
  obtain ⟨i0, hi, hz0, hz1, hz2⟩ := info_parts infoP2
  have HI := Lib.hid (And.intro hi (And.intro hz0 (And.intro hz1 hz2)))
  clear hi hz0 hz1 hz2
  have HF := Lib.hid hf
  clear hf
  have HN0 : Hid (Col w 40 2 (.slice (some ⟨w.heap.size, 0, none⟩) 0 0) (clK P 0) (cells2 (clL P 0)) (w.alloc (.cells #[] 40))) := Lib.hid (col_start 40 2 (Below.refl _ _))
  go_enter Try.func63, Try.ntmps63
  go_wp2_with fail
  go_loopw [3, 7] (fun s i wr => ∃ (r : Nat) (v : Value), r ≤ 20 ∧ i = .int .i64 r ∧ s = v ∧ Hid (Col w 40 2 v (clK P r) (cells2 (clL P r)) wr)) (fun _ i _ => 20 - (intOf i).toNat)
  case atStart => exact ⟨0, _, Nat.zero_le _, rfl, rfl, HN0⟩
  case round =>
    obtain ⟨r, v, hr, rfl, rfl, hR⟩ := hrel
    by_cases hlr : r < 20
    · have HR0 : Hid (Col w 40 2 u3 (clK P r + rwK P r 0) (cells2 (clL P r ++ rwL P r 0)) wr) := by unfold Hid; rw [rwK, rwL, List.append_nil]; exact hR.out
      go_wp2_with fail
      go_loopw [3, 10] (fun s i wr2 => ∃ (c : Nat) (v : Value), c ≤ 20 ∧ i = .int .i64 c ∧ s = v ∧ Hid (Col w 40 2 v (clK P r + rwK P r c) (cells2 (clL P r ++ rwL P r c)) wr2)) (fun _ i _ => 20 - (intOf i).toNat)
      case atStart => exact ⟨0, _, Nat.zero_le _, rfl, rfl, HR0⟩
      case round =>
        obtain ⟨c, v2, hc, rfl, hv, hC⟩ := hrel
        have hv' := hv.symm
        clear hv
        subst hv'
        by_cases hlc : c < 20
        · obtain ⟨b, hb⟩ : ∃ b, P r c = b := ⟨_, rfl⟩
          have HP := Lib.hid hb
          go_wp2_with fail
          refine (HF.out _ r c hC.out.2 hlr hlc).mono ?_
          rintro e w1 ⟨he, hb1⟩
          rw [HP.out] at he
          subst he
          have HC1 := Lib.hid (hC.out.next hb1)
          clear hb1
          rcases b with _ | _
          · have HC2 : Hid (Col w 40 2 v2 (clK P r + rwK P r (c + 1)) (cells2 (clL P r ++ rwL P r (c + 1))) w1) := by unfold Hid; rw [(rwL_no HP.out).1, (rwL_no HP.out).2]; exact HC1.out
            go_wp2_with fail
            go_roundw
            case rel => (repeat apply Exists.intro); rw [show decide ((r : Int) < 20) = true from decide_eq_true (by omega)]; exact ⟨⟨c + 1, _, by omega, by go_num, rfl, HC2⟩, rfl⟩
            case measure => simp [intOf]; omega
          · have hkb : clK P r + rwK P r c ≤ 400 := by have := clK_le P r; have := rwK_le P r c; omega
            go_wp2_with (at_builtin; go_loud (refine wpList_append_own _ rfl _ _ 34 rfl w.heap.size 40 i0 (.agg #[.int .i64 0, .int .i64 0]) 2 16 Try.underlying34 HI.out.1 HI.out.2.1 HI.out.2.2.1 HI.out.2.2.2 rfl (by decide) _ _ _ rfl (HC1.out.1.alloc _) ⟨w1.heap.size, 0, none⟩ 1 1 [.int .i64 r, .int .i64 c] rfl rfl (two_new _ _ _ _) (by simp [Value.oneCell']) (by unfold maxLen; omega) (by omega) (by have := HC1.out.2.size; simp; omega) ?_; intro v' w5 hown' hgrow _; have HN := Lib.hid (HC1.out.step hown' hgrow); clear hown' hgrow))
            have HC2 : Hid (Col w 40 2 v' (clK P r + rwK P r (c + 1)) (cells2 (clL P r ++ rwL P r (c + 1))) w5) := by
              have h := HN.out
              rw [← cells2_snoc, List.append_assoc] at h
              unfold Hid; rw [(rwL_yes HP.out).1, (rwL_yes HP.out).2, ← Nat.add_assoc]; exact h
            go_roundw
            case rel => (repeat apply Exists.intro); rw [show decide ((r : Int) < 20) = true from decide_eq_true (by omega)]; exact ⟨⟨c + 1, _, by omega, by go_num, rfl, HC2⟩, rfl⟩
            case measure => simp [intOf]; omega
        · obtain rfl : c = 20 := by omega
          have HC2 : Hid (Col w 40 2 v2 (clK P (r + 1)) (cells2 (clL P (r + 1))) wr) := hC
          go_wp2_with fail
          go_roundw
          case rel => exact ⟨r + 1, _, by omega, by go_num, rfl, HC2⟩
          case measure => simp [intOf]; omega
    · obtain rfl : r = 20 := by omega
      obtain ⟨A, cp, rfl⟩ := own_slice hR.out.1
      have HP : Hid (CellsPost P w (.returned (.slice A (clK P 20) cp)) wr) := Lib.hid ⟨A, cp, rfl, own2_of_row hR.out.1 (clL_len P 20), hR.out.2⟩
      go_wp2_with fail
      go_ret
      exact HP.out
set_option maxRecDepth 20000 in
set_option maxHeartbeats 3200000 in
theorem where_open (P : Nat → Nat → Bool) (q1 q2 : Value) (w : World)
    (hf : ∀ (W : World) (r c : Nat), Below w.heap.size w W → r < 20 → c < 20 → Calls Try.prog 72 #[.int .i64 r, .int .i64 c, q1, q2] W fun e w' => e = .returned (.bool (P r c)) ∧ Below W.heap.size W w') :
    Calls Try.prog 63 #[.func (.func 72) #[] #[q1, q2]] w (CellsPost P w) := by
  obtain ⟨i0, hi, hz0, hz1, hz2⟩ := info_parts infoP2
  have HI := Lib.hid (And.intro hi (And.intro hz0 (And.intro hz1 hz2)))
  clear hi hz0 hz1 hz2
  have HF := Lib.hid hf
  clear hf
  have HN0 : Hid (Col w 40 2 (.slice (some ⟨w.heap.size, 0, none⟩) 0 0) (clK P 0) (cells2 (clL P 0)) (w.alloc (.cells #[] 40))) := Lib.hid (col_start 40 2 (Below.refl _ _))
  go_enter Try.func63, Try.ntmps63
  go_wp2_with fail
  go_loopw [3, 7] (fun s i wr => ∃ (r : Nat) (v : Value), r ≤ 20 ∧ i = .int .i64 r ∧ s = v ∧ Hid (Col w 40 2 v (clK P r) (cells2 (clL P r)) wr)) (fun _ i _ => 20 - (intOf i).toNat)
  case atStart => exact ⟨0, _, Nat.zero_le _, rfl, rfl, HN0⟩
  case round =>
    obtain ⟨r, v, hr, rfl, rfl, hR⟩ := hrel
    by_cases hlr : r < 20
    · have HR0 : Hid (Col w 40 2 u3 (clK P r + rwK P r 0) (cells2 (clL P r ++ rwL P r 0)) wr) := by unfold Hid; rw [rwK, rwL, List.append_nil]; exact hR.out
      go_wp2_with fail
      go_loopw [3, 10] (fun s i wr2 => ∃ (c : Nat) (v : Value), c ≤ 20 ∧ i = .int .i64 c ∧ s = v ∧ Hid (Col w 40 2 v (clK P r + rwK P r c) (cells2 (clL P r ++ rwL P r c)) wr2)) (fun _ i _ => 20 - (intOf i).toNat)
      case atStart => exact ⟨0, _, Nat.zero_le _, rfl, rfl, HR0⟩
      case round =>
        obtain ⟨c, v2, hc, rfl, hv, hC⟩ := hrel
        have hv' := hv.symm
        clear hv
        subst hv'
        by_cases hlc : c < 20
        · obtain ⟨b, hb⟩ : ∃ b, P r c = b := ⟨_, rfl⟩
          have HP := Lib.hid hb
          go_wp2_with fail
          refine (HF.out _ r c hC.out.2 hlr hlc).mono ?_
          rintro e w1 ⟨he, hb1⟩
          rw [HP.out] at he
          subst he
          have HC1 := Lib.hid (hC.out.next hb1)
          clear hb1
          rcases b with _ | _
          · have HC2 : Hid (Col w 40 2 v2 (clK P r + rwK P r (c + 1)) (cells2 (clL P r ++ rwL P r (c + 1))) w1) := by unfold Hid; rw [(rwL_no HP.out).1, (rwL_no HP.out).2]; exact HC1.out
            go_wp2_with fail
            go_roundw
            case rel => (repeat apply Exists.intro); rw [show decide ((r : Int) < 20) = true from decide_eq_true (by omega)]; exact ⟨⟨c + 1, _, by omega, by go_num, rfl, HC2⟩, rfl⟩
            case measure => simp [intOf]; omega
          · have hkb : clK P r + rwK P r c ≤ 400 := by have := clK_le P r; have := rwK_le P r c; omega
            go_wp2_with (at_builtin; go_loud (refine wpList_append_own _ rfl _ _ 34 rfl w.heap.size 40 i0 (.agg #[.int .i64 0, .int .i64 0]) 2 16 Try.underlying34 HI.out.1 HI.out.2.1 HI.out.2.2.1 HI.out.2.2.2 rfl (by decide) _ _ _ rfl (HC1.out.1.alloc _) ⟨w1.heap.size, 0, none⟩ 1 1 [.int .i64 r, .int .i64 c] rfl rfl (two_new _ _ _ _) (by simp [Value.oneCell']) (by unfold maxLen; omega) (by omega) (by have := HC1.out.2.size; simp; omega) ?_; intro v' w5 hown' hgrow _; have HN := Lib.hid (HC1.out.step hown' hgrow); clear hown' hgrow))
            have HC2 : Hid (Col w 40 2 v' (clK P r + rwK P r (c + 1)) (cells2 (clL P r ++ rwL P r (c + 1))) w5) := by
              have h := HN.out
              rw [← cells2_snoc, List.append_assoc] at h
              unfold Hid; rw [(rwL_yes HP.out).1, (rwL_yes HP.out).2, ← Nat.add_assoc]; exact h
            go_roundw
            case rel => (repeat apply Exists.intro); rw [show decide ((r : Int) < 20) = true from decide_eq_true (by omega)]; exact ⟨⟨c + 1, _, by omega, by go_num, rfl, HC2⟩, rfl⟩
            case measure => simp [intOf]; omega
        · obtain rfl : c = 20 := by omega
          have HC2 : Hid (Col w 40 2 v2 (clK P (r + 1)) (cells2 (clL P (r + 1))) wr) := hC
          go_wp2_with fail
          go_roundw
          case rel => exact ⟨r + 1, _, by omega, by go_num, rfl, HC2⟩
          case measure => simp [intOf]; omega
    · obtain rfl : r = 20 := by omega
      obtain ⟨A, cp, rfl⟩ := own_slice hR.out.1
      have HP : Hid (CellsPost P w (.returned (.slice A (clK P 20) cp)) wr) := Lib.hid ⟨A, cp, rfl, own2_of_row hR.out.1 (clL_len P 20), hR.out.2⟩
      go_wp2_with fail
      go_ret
      exact HP.out
end Go.Proofs.Ytagfgaohdpoegaa
