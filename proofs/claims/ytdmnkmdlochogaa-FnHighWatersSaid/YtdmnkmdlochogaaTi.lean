/-
  The highest level of a span, the program's side: contract of impl.HighestLevel over this translation. Conditions: stated at each theorem.
-/
import Derived.Test.YtdmnkmdlochogaaTh
import Derived.WalkMore
import Derived.Deep.DeepCutAuto
import Derived.ScopeJumps
namespace Go.Proofs.Ytdmnkmdlochogaa
open Go.RowKit

def HiInv (l : List (Int × Int)) (a b : Int) (w : World) (r : Value) (wr : World) : Prop :=
  ∃ (k : Nat) (t N : Int) (D : Nat), t ≤ b + 1 ∧ a ≤ t ∧ Hid (t = a + (k : Int)) ∧ r = .int .i64 t ∧ (k = 0 ∧ N = 0 ∧ D = 0 ∨ 0 < k ∧ (1 ≤ D ∧ D ≤ 60) ∧ -120000 ≤ N ∧ N ≤ 120000) ∧
    Hid ((0 < k → N = rlN l (a + (bestK l a k : Int)) ∧ D = rlD l (a + (bestK l a k : Int))) ∧ allL l a k) ∧ Hid (Below w.heap.size w wr ∧ Has wr w.heap.size [.int .i64 N, .int .i64 D])
theorem abv_red {l : List (Int × Int)} {t u : Int} (h : loK l t = true) (h' : loK l u = true) : abvB l t u = decide (rlN l u * (rlD l t : Int) < rlN l t * (rlD l u : Int)) := by
  have p := lo_parts h
  have p' := lo_parts h'
  have b1 := lv_bd p.1 p.2.1
  have b2 := lv_bd p'.1 p'.2.1
  unfold abvB
  exact decide_eq_decide.2 (rl_above (by omega) (by omega)).symm
/-- What holds where the program jumps to its failures: there is no highest level, and nothing old has turned. -/
def HlJump (l : List (Int × Int)) (a b : Int) (w : World) (a' : Act) (w' : World) : Prop :=
  Hid (hlK l a b = false ∧ Below w.heap.size w w') ∧ ∃ (u0 u1 u2 u3 u4 u5 u6 u7 u8 u9 u10 u11 u12 u13 u14 u15 u16 u17 u18 u19 u20 u21 u22 u23 u24 u25 u26 u27 u28 u29 u30 u31 u32 u33 u34 u35 u36 u37 u38 u39 u40 u41 u42 u43 u44 u45 u46 u47 u48 u49 u50 : Value), a' = { tmps := #[u0, u1, u2, u3, u4, u5, u6, u7, u8, u9, u10, u11, u12, u13, u14, u15, u16, u17, u18, u19, u20, u21, u22, u23, u24, u25, u26, u27, u28, u29, u30, u31, u32, u33, u34, u35, u36, u37, u38, u39, u40, u41, u42, u43, u44, u45, u46, u47, u48, u49, u50], defers := [] }
theorem hl_jump {l : List (Int × Int)} {a b : Int} {w w' : World} {a' : Act} (h : hlK l a b = false) (hb : Below w.heap.size w w') (ha : ∃ (u0 u1 u2 u3 u4 u5 u6 u7 u8 u9 u10 u11 u12 u13 u14 u15 u16 u17 u18 u19 u20 u21 u22 u23 u24 u25 u26 u27 u28 u29 u30 u31 u32 u33 u34 u35 u36 u37 u38 u39 u40 u41 u42 u43 u44 u45 u46 u47 u48 u49 u50 : Value), a' = { tmps := #[u0, u1, u2, u3, u4, u5, u6, u7, u8, u9, u10, u11, u12, u13, u14, u15, u16, u17, u18, u19, u20, u21, u22, u23, u24, u25, u26, u27, u28, u29, u30, u31, u32, u33, u34, u35, u36, u37, u38, u39, u40, u41, u42, u43, u44, u45, u46, u47, u48, u49, u50], defers := [] }) : HlJump l a b w a' w' := ⟨Lib.hid ⟨h, hb⟩, ha⟩
set_option maxRecDepth 20000 in
set_option maxHeartbeats 3200000 in
theorem highest_impl (A : Option Addr) (n c : Nat) (l : List (Int × Int)) (a b : Int) (w : World) (hs : Spots w w.heap.size A n l) (hm : n ≤ maxLen) :
    Calls Try.prog 48 #[.slice A n c, .int .i64 a, .int .i64 b] w (HlPost l a b w) := by
  obtain ⟨V0, hV⟩ : ∃ W, W = w.alloc (.cells #[.int .i64 0, .int .i64 0] 124) := ⟨_, rfl⟩
  have HN0 : Hid (Below w.heap.size w V0 ∧ Has V0 w.heap.size [.int .i64 0, .int .i64 0]) := by rw [hV]; exact box1 (Below.refl _ _)
  have hz : V0.heap.size = w.heap.size + 1 := by rw [hV]; exact World.size_alloc _ _
  obtain ⟨W1, hW1⟩ : ∃ W, W = V0.alloc (.cells #[.int .i64 a, .int .i64 b] 3) := ⟨_, rfl⟩
  have HP0 := pair_box hW1
  have HP : Hid (Below V0.heap.size V0 W1 ∧ Has W1 (w.heap.size + 1) [.int .i64 a, .int .i64 b]) := Lib.hid ⟨HP0.out.1, hz ▸ HP0.out.2⟩
  have HN1 := Lib.hid (And.intro (bthen HN0.out.1 HP.out.1 HN0.out.1.size) (HN0.out.2.next HP.out.1))
  have HS := Lib.hid hs
  have HE := Lib.hid hV
  have HE1 := Lib.hid hW1
  clear hV hW1 hz HP0 hs
  go_enter Try.func48, Try.ntmps48
  go_wp2_with fail
  refine wp_scope_jumps 0 (HlJump l a b w) (fun _ _ => 0) rfl ?_ ?_
  case refine_2 =>
    rintro a' w' ⟨H, u0, u1, u2, u3, u4, u5, u6, u7, u8, u9, u10, u11, u12, u13, u14, u15, u16, u17, u18, u19, u20, u21, u22, u23, u24, u25, u26, u27, u28, u29, u30, u31, u32, u33, u34, u35, u36, u37, u38, u39, u40, u41, u42, u43, u44, u45, u46, u47, u48, u49, u50, rfl⟩
    clear HN0 HP HN1 HS HE HE1
    go_wp2_with fail
    simp only [Exit.jump]
    go_ret3
    exact hl_no H.out.1 H.out.2
  rcases h2 : (inB a 0 10000 && inB b 0 10000) with _ | _
  · have HR : Hid (hlK l a b = false) := by unfold Hid hlK; rw [h2]; rfl
    have H2 := Lib.hid h2
    clear h2
    go_wp2_with fail
    rw [← HE.out, ← HE1.out]
    refine (two_within _ _ a b _ H2.out _ _ (HP.out.2.at_ 0 _ rfl) (HP.out.2.at_ 1 _ rfl)).mono ?_
    rintro e w' ⟨rfl, rfl⟩
    go_wp2_with fail
    go_step3
    exact ⟨rfl, hl_jump HR.out HN1.out.1 ⟨_, _, _, _, _, _, _, _, _, _, _, _, _, _, _, _, _, _, _, _, _, _, _, _, _, _, _, _, _, _, _, _, _, _, _, _, _, _, _, _, _, _, _, _, _, _, _, _, _, _, _, rfl⟩⟩
  have H2 := Lib.hid h2
  have h2' := h2
  rw [Bool.and_eq_true] at h2'
  obtain ⟨ha1, ha2⟩ := inB_yes h2'.1
  obtain ⟨hb1, hb2⟩ := inB_yes h2'.2
  clear h2'
  by_cases hc : b < a
  · have HR : Hid (hlK l a b = false) := by unfold Hid hlK; rw [decide_eq_false (show ¬ a ≤ b by omega), Bool.and_false]; rfl
    clear h2
    go_wp2_with fail
    rw [← HE.out, ← HE1.out]
    refine (two_within _ _ a b _ H2.out _ _ (HP.out.2.at_ 0 _ rfl) (HP.out.2.at_ 1 _ rfl)).mono ?_
    rintro e w' ⟨rfl, rfl⟩
    go_wp2_with fail
    go_step3
    exact ⟨rfl, hl_jump HR.out HN1.out.1 ⟨_, _, _, _, _, _, _, _, _, _, _, _, _, _, _, _, _, _, _, _, _, _, _, _, _, _, _, _, _, _, _, _, _, _, _, _, _, _, _, _, _, _, _, _, _, _, _, _, _, _, _, rfl⟩⟩
  clear h2
  go_wp2_with fail
  rw [← HE.out, ← HE1.out]
  refine (two_within _ _ a b _ H2.out _ _ (HP.out.2.at_ 0 _ rfl) (HP.out.2.at_ 1 _ rfl)).mono ?_
  rintro e w' ⟨rfl, rfl⟩
  go_wp2_with fail
  go_loopw [10] (HiInv l a b w) (fun i _ => (b + 1 - intOf i).toNat)
  case atStart => exact ⟨0, a, 0, 0, by omega, Int.le_refl _, Lib.hid (by omega), rfl, .inl ⟨rfl, rfl, rfl⟩, Lib.hid ⟨fun h => absurd h (by omega), fun j h => absurd h (by omega)⟩, HN1⟩
  case round =>
    obtain ⟨k, t, N, D, hk, hat, hT, rfl, hbd, hI, hB⟩ := hrel
    have HSr := Lib.hid (spots_at HS.out hB.out.1)
    by_cases hlt : t ≤ b
    · rcases hv : loK l t with _ | _
      · have HQ := Lib.hid (And.intro (lo_none hv) hv)
        have HR : Hid (hlK l a b = false) := hl_bad (k := k) (by rw [← hT.out]; exact hlt) (by rw [← hT.out]; exact hv)
        clear hv
        go_wp2_with fail
        refine (levelOf_v _ _ _ l t _ _ _ HQ.out.1.1 HQ.out.1.2 HQ.out.2 _ HSr.out hm).mono ?_
        rintro e w2 ⟨rfl, hb⟩
        have HT := Lib.hid ((bthen hB.out.1 hb hB.out.1.size).alloc (bthen hB.out.1 hb hB.out.1.size).size (.cells #[.int .i64 0, .int .i64 0] 124))
        clear hb
        go_wp2_with fail
        go_step3
        exact ⟨rfl, hl_jump HR.out HT.out ⟨_, _, _, _, _, _, _, _, _, _, _, _, _, _, _, _, _, _, _, _, _, _, _, _, _, _, _, _, _, _, _, _, _, _, _, _, _, _, _, _, _, _, _, _, _, _, _, _, _, _, _, rfl⟩⟩
      have hpp := lo_parts hv
      have nbd := rl_bd hpp.1 hpp.2.1
      have HAL := Lib.hid (all_step hI.out.2 (by rw [← hT.out]; exact hv))
      obtain ⟨N', hN'⟩ : ∃ N', N' = rlN l t := ⟨_, rfl⟩
      obtain ⟨D', hD'⟩ : ∃ D', D' = rlD l t := ⟨_, rfl⟩
      rw [← hN', ← hD'] at hpp nbd
      have HQ := Lib.hid (And.intro hpp.2.2 hv)
      have HEQ := Lib.hid (And.intro hN' hD')
      clear hN' hD' hpp hv
      have e0 := hB.out.2.at_ 0 _ rfl
      have e1 := hB.out.2.at_ 1 _ rfl
      rcases hbd with ⟨rfl, rfl, rfl⟩ | ⟨hkp, hbd⟩
      · have HI : Hid ((0 < 0 + 1 → N' = rlN l (a + (bestK l a (0 + 1) : Int)) ∧ D' = rlD l (a + (bestK l a (0 + 1) : Int))) ∧ allL l a (0 + 1)) := Lib.hid ⟨fun _ => by rw [best_one, ← hT.out]; exact HEQ.out, HAL.out⟩
        have hta : t = a := by have := hT.out; omega
        have hta' : (t == a) = true := beq_iff_eq.2 hta
        clear hta
        go_wp2_with fail
        refine (levelOf_v _ _ _ l t _ _ _ HQ.out.1.1 HQ.out.1.2 HQ.out.2 _ HSr.out hm).mono ?_
        rintro e w2 ⟨rfl, hb⟩
        obtain ⟨W2, hW2⟩ : ∃ W0, W0 = w2.alloc (.cells #[.int .i64 N', .int .i64 D'] 124) := ⟨_, rfl⟩
        have HW := frac_box (bthen hB.out.1 hb hB.out.1.size) hW2
        have HX := Lib.hid ((hB.out.2.next hb).next HW.out.2.2)
        have HE2 := Lib.hid hW2
        clear hb hW2 e0 e1
        have f0 := HW.out.2.1.at_ 0 _ rfl
        have f1 := HW.out.2.1.at_ 1 _ rfl
        have e0 := HX.out.at_ 0 _ rfl
        have e1 := HX.out.at_ 1 _ rfl
        have ef0 := HX.out.free 0
        have ef1 := HX.out.free 1
        have HF := Lib.hid (And.intro ((HW.out.1.setCell (p := ⟨w.heap.size, 0, none⟩) (Nat.le_refl _) (.int .i64 N')).setCell (p := ⟨w.heap.size, 1, none⟩) (Nat.le_refl _) (.int .i64 D')) ((HX.out.set 0 (.int .i64 N')).set 1 (.int .i64 D')))
        go_upto_region 7 with fail
        rw [← HE2.out]
        go_wp2_with fail
        go_roundw
        case rel => exact ⟨0 + 1, t + 1, N', D', by omega, by omega, Lib.hid (by have := hT.out; omega), by go_num, .inr ⟨by omega, nbd⟩, HI, HF⟩
        case measure => simp [intOf]; omega
      · have hta : (t == a) = false := beq_eq_false_iff_ne.2 (by have := hT.out; omega)
        have hbl := best_lt l a k hkp
        have HAB : Hid (abvB l (a + (k : Int)) (a + (bestK l a k : Int)) = decide (N * (D' : Int) < N' * (D : Int))) := by
          unfold Hid
          rw [abv_red (by rw [← hT.out]; exact HQ.out.2) (hI.out.2 _ hbl), ← hT.out, ← (hI.out.1 hkp).1, ← (hI.out.1 hkp).2, ← HEQ.out.1, ← HEQ.out.2]
        rcases hc2 : decide (N * (D' : Int) < N' * (D : Int)) with _ | _
        · have HC2 := Lib.hid hc2
          have HI : Hid ((0 < k + 1 → N = rlN l (a + (bestK l a (k + 1) : Int)) ∧ D = rlD l (a + (bestK l a (k + 1) : Int))) ∧ allL l a (k + 1)) := Lib.hid ⟨fun _ => by rw [best_no hkp (HAB.out.trans hc2)]; exact hI.out.1 hkp, HAL.out⟩
          clear hc2
          go_wp2_with fail
          refine (levelOf_v _ _ _ l t _ _ _ HQ.out.1.1 HQ.out.1.2 HQ.out.2 _ HSr.out hm).mono ?_
          rintro e w2 ⟨rfl, hb⟩
          obtain ⟨W2, hW2⟩ : ∃ W0, W0 = w2.alloc (.cells #[.int .i64 N', .int .i64 D'] 124) := ⟨_, rfl⟩
          have HW := frac_box (bthen hB.out.1 hb hB.out.1.size) hW2
          have HX := Lib.hid ((hB.out.2.next hb).next HW.out.2.2)
          have HE2 := Lib.hid hW2
          clear hb hW2 e0 e1
          have f0 := HW.out.2.1.at_ 0 _ rfl
          have f1 := HW.out.2.1.at_ 1 _ rfl
          have e0 := HX.out.at_ 0 _ rfl
          have e1 := HX.out.at_ 1 _ rfl
          go_upto_region 7 with fail
          rw [← HE2.out]
          go_wp2_with fail
          refine (above_any N' D' N D _ HC2.out _ nbd hbd).mono ?_
          rintro e w3 ⟨rfl, hb⟩
          have HF := Lib.hid (And.intro (bthen HW.out.1 hb HW.out.1.size) (HX.out.next hb))
          clear hb f0 f1 e0 e1
          go_wp2_with fail
          go_roundw
          case rel => exact ⟨k + 1, t + 1, N, D, by omega, by omega, Lib.hid (by have := hT.out; omega), by go_num, .inr ⟨by omega, hbd⟩, HI, HF⟩
          case measure => simp [intOf]; omega
        · have HC2 := Lib.hid hc2
          have HI : Hid ((0 < k + 1 → N' = rlN l (a + (bestK l a (k + 1) : Int)) ∧ D' = rlD l (a + (bestK l a (k + 1) : Int))) ∧ allL l a (k + 1)) := Lib.hid ⟨fun _ => by rw [best_yes hkp (HAB.out.trans hc2), ← hT.out]; exact HEQ.out, HAL.out⟩
          clear hc2
          go_wp2_with fail
          refine (levelOf_v _ _ _ l t _ _ _ HQ.out.1.1 HQ.out.1.2 HQ.out.2 _ HSr.out hm).mono ?_
          rintro e w2 ⟨rfl, hb⟩
          obtain ⟨W2, hW2⟩ : ∃ W0, W0 = w2.alloc (.cells #[.int .i64 N', .int .i64 D'] 124) := ⟨_, rfl⟩
          have HW := frac_box (bthen hB.out.1 hb hB.out.1.size) hW2
          have HX := Lib.hid ((hB.out.2.next hb).next HW.out.2.2)
          have HE2 := Lib.hid hW2
          clear hb hW2 e0 e1
          have f0 := HW.out.2.1.at_ 0 _ rfl
          have f1 := HW.out.2.1.at_ 1 _ rfl
          have e0 := HX.out.at_ 0 _ rfl
          have e1 := HX.out.at_ 1 _ rfl
          go_upto_region 7 with fail
          rw [← HE2.out]
          go_wp2_with fail
          refine (above_any N' D' N D _ HC2.out _ nbd hbd).mono ?_
          rintro e w3 ⟨rfl, hb⟩
          have HX3 := Lib.hid (HX.out.next hb)
          have HF := Lib.hid (And.intro (((bthen HW.out.1 hb HW.out.1.size).setCell (p := ⟨w.heap.size, 0, none⟩) (Nat.le_refl _) (.int .i64 N')).setCell (p := ⟨w.heap.size, 1, none⟩) (Nat.le_refl _) (.int .i64 D')) ((HX3.out.set 0 (.int .i64 N')).set 1 (.int .i64 D')))
          have g0 := cell_next hb f0
          have g1 := cell_next hb f1
          clear hb f0 f1 e0 e1
          have e0 := HX3.out.at_ 0 _ rfl
          have e1 := HX3.out.at_ 1 _ rfl
          have ef0 := HX3.out.free 0
          have ef1 := HX3.out.free 1
          go_wp2_with fail
          go_roundw
          case rel => exact ⟨k + 1, t + 1, N', D', by omega, by omega, Lib.hid (by have := hT.out; omega), by go_num, .inr ⟨by omega, nbd⟩, HI, HF⟩
          case measure => simp [intOf]; omega
    · have hke : a + (k : Int) = b + 1 := by have := hT.out; omega
      have hkp : 0 < k := by omega
      have HF := Lib.hid (hl_all H2.out (by omega) hke hI.out.2)
      have HG : Hid (rlN l (hlT l a b) = N ∧ (rlD l (hlT l a b) : Int) = D) := by
        unfold Hid
        rw [HF.out.2, ← (hI.out.1 hkp).1, ← (hI.out.1 hkp).2]
        exact ⟨rfl, rfl⟩
      have e0 := hB.out.2.at_ 0 _ rfl
      have e1 := hB.out.2.at_ 1 _ rfl
      go_wp2_with fail
      have lc0 := lcell (e0)
      have lc1 := lcell (e1)
      refine region_later (W := wr) (by kernel_rfl) (by kernel_rfl) (Below.refl _ _) ?_
      repeat (go_big_quiet_step (fail))
      refine wpQuiet_nil ?_
      intro W9 hW1
      have HL : Hid (Below wr.heap.size wr W9) := by obtain ⟨x, rfl⟩ := hW1; exact Lib.hid x.below
      clear hW1 lc0 lc1
      have HT := Lib.hid (bthen hB.out.1 HL.out hB.out.1.size)
      go_wp2_with fail
      simp only [Exit.jump]
      go_ret3
      exact hl_yes HF.out.1 HG.out.1 HG.out.2 HT.out
end Go.Proofs.Ytdmnkmdlochogaa
