/-
  Contract of impl.BoxOf over this translation. Conditions: stated at the theorem.
-/
import Derived.Test.YtjnimedbjmihaaaBo
import Derived.RegionTactic
import Derived.ChangeAlike
namespace Go.Proofs.Ytjnimedbjmihaaa
open Go.RowKit

set_option maxRecDepth 20000 in
set_option maxHeartbeats 1600000 in
theorem bo_impl (A : Option Addr) (c : Nat) (l : List (Int × Int)) (w : World) (hs : Spots w w.heap.size A l.length l) (hm : l.length ≤ maxLen) (hcap : l.length ≤ c) :
    Calls Try.prog 24 #[.slice A l.length c] w (BoPost l w) := by
  have HS := Lib.hid hs
  clear hs
  rcases h1 : spotsB l with _ | _
  · have H1 := Lib.hid h1
    have HR := Lib.hid (bo_no (l := l) (by unfold boK; rw [h1]; rfl))
    clear h1
    go_enter Try.func24, Try.ntmps24
    go_wp2_with fail
    refine (are_impl_v _ _ _ _ l _ (spots_alloc HS.out _) hm H1.out).mono ?_
    rintro e w1 ⟨rfl, hb⟩
    have HX := Lib.hid (box1 hb)
    clear hb
    have z0 := HX.out.2.at_ 0 _ rfl
    have z1 := HX.out.2.at_ 1 _ rfl
    have z2 := HX.out.2.at_ 2 _ rfl
    have z3 := HX.out.2.at_ 3 _ rfl
    have f0 := HX.out.2.free 0
    have f1 := HX.out.2.free 1
    have f2 := HX.out.2.free 2
    have f3 := HX.out.2.free 3
    go_wp2_with fail
    refine bodyPost_ret (v := .tuple #[.agg #[.int .i64 0, .int .i64 0, .int .i64 0, .int .i64 0], .bool false]) (by simp [results, Try.results24, go_sem, z0, z1, z2, z3]) rfl ⟨congrArg Ending.returned HR.out, ?_⟩
    repeat (first | exact HX.out.1 | refine Below.setCell ?_ (by simp; try omega) _)
  by_cases h3 : 0 < l.length
  · have H1 := Lib.hid h1
    have HKo := Lib.hid (show boK l = true by unfold boK; rw [h1, decide_eq_true h3]; rfl)
    have h0 : ((l.length : Int) == 0) = false := beq_eq_false_iff_ne.2 (by omega)
    clear h1
    go_enter Try.func24, Try.ntmps24
    go_wp2_with fail
    refine (are_impl_v _ _ _ _ l _ (spots_alloc HS.out _) hm H1.out).mono ?_
    rintro e w1 ⟨rfl, hb⟩
    have HX := Lib.hid (box1 hb)
    have HS1 := Lib.hid (spots_more (spots_alloc HS.out _) hb)
    clear hb
    unfold maxLen at hm
    obtain ⟨b0, o0, x0, y0, rfl, hb0, hl0, c0, c1⟩ := HS1.out.2 0 h3
    rw [Nat.zero_mul, Nat.add_zero] at c0 c1
    have HL0 := Lib.hid hl0
    clear hl0
    have HG : Hid (Has ((w1.alloc (.cells #[.int .i64 x0, .int .i64 y0] 26)).alloc (.cells #[.int .i64 x0, .int .i64 y0, .int .i64 x0, .int .i64 y0] 35)) (w1.heap.size + 1) [.int .i64 (ext min (·.1) l 1), .int .i64 (ext min (·.2) l 1), .int .i64 (ext max (·.1) l 1), .int .i64 (ext max (·.2) l 1)] ∧ Has ((w1.alloc (.cells #[.int .i64 x0, .int .i64 y0] 26)).alloc (.cells #[.int .i64 x0, .int .i64 y0, .int .i64 x0, .int .i64 y0] 35)) w.heap.size [.int .i64 0, .int .i64 0, .int .i64 0, .int .i64 0] ∧ Below w1.heap.size w1 ((w1.alloc (.cells #[.int .i64 x0, .int .i64 y0] 26)).alloc (.cells #[.int .i64 x0, .int .i64 y0, .int .i64 x0, .int .i64 y0] 35))) := by
      rw [ext_one min (by omega) (·.1) HL0.out, ext_one min (by omega) (·.2) HL0.out, ext_one max (by omega) (·.1) HL0.out, ext_one max (by omega) (·.2) HL0.out]
      exact ⟨(box2 (Below.refl _ _)).2.2, (HX.out.2.alloc _).alloc _, (box2 (Below.refl _ _)).1⟩
    go_wp2_with fail
    all_goals
      clear c0 c1
      go_loopw [32] (fun i wr => ∃ k : Nat, k ≤ l.length - 1 ∧ i = .int .i64 k ∧ Hid (Has wr (w1.heap.size + 1) [.int .i64 (ext min (·.1) l (k + 1)), .int .i64 (ext min (·.2) l (k + 1)), .int .i64 (ext max (·.1) l (k + 1)), .int .i64 (ext max (·.2) l (k + 1))] ∧ Has wr w.heap.size [.int .i64 0, .int .i64 0, .int .i64 0, .int .i64 0] ∧ Below w1.heap.size w1 wr)) (fun i _ => l.length - (intOf i).toNat)
      case atStart => exact ⟨0, Nat.zero_le _, rfl, HG⟩
      case round =>
        obtain ⟨k, hk, rfl, hG⟩ := hrel
        clear HG
        by_cases hlt : k < l.length - 1
        · first
            | (exfalso; omega)
            | (obtain ⟨b1, o1, x, y, hAe, hb1, hl1, c0, c1⟩ := (spots_more HS1.out hG.out.2.2).2 (k + 1) (by omega)
               obtain ⟨rfl, rfl⟩ : b0 = b1 ∧ o0 = o1 := by injection hAe with h; injection h with h h'; exact ⟨h, h'⟩
               have HL := Lib.hid hl1
               rw [show o0 + (k + 1) * 2 = o0 + 2 + k * 2 by omega] at c0 c1
               clear hl1 hAe
               go_wp2_with fail
               obtain ⟨W5, hW5⟩ : ∃ W5, W5 = (wr.alloc (.cells #[.int .i64 x, .int .i64 y] 26)) := ⟨_, rfl⟩
               have H5 : Hid (Has W5 (w1.heap.size + 1) [.int .i64 (ext min (·.1) l (k + 1)), .int .i64 (ext min (·.2) l (k + 1)), .int .i64 (ext max (·.1) l (k + 1)), .int .i64 (ext max (·.2) l (k + 1))] ∧ Has W5 w.heap.size [.int .i64 0, .int .i64 0, .int .i64 0, .int .i64 0] ∧ Below w1.heap.size w1 W5 ∧ Has W5 wr.heap.size [.int .i64 x, .int .i64 y]) := by rw [hW5]; exact ⟨hG.out.1.alloc _, hG.out.2.1.alloc _, hG.out.2.2.alloc hG.out.2.2.size _, Has.new _ _ _⟩
               rw [← hW5]
               clear hW5 c0 c1
               obtain ⟨E0, hE0⟩ : ∃ E, E = ext min (·.1) l (k + 1) := ⟨_, rfl⟩
               obtain ⟨E1, hE1⟩ : ∃ E, E = ext min (·.2) l (k + 1) := ⟨_, rfl⟩
               obtain ⟨E2, hE2⟩ : ∃ E, E = ext max (·.1) l (k + 1) := ⟨_, rfl⟩
               obtain ⟨E3, hE3⟩ : ∃ E, E = ext max (·.2) l (k + 1) := ⟨_, rfl⟩
               rw [← hE0, ← hE1, ← hE2, ← hE3] at H5
               have HE := Lib.hid (And.intro hE0 (And.intro hE1 (And.intro hE2 hE3)))
               clear hE0 hE1 hE2 hE3
               have hn1 : ¬ w1.heap.size + 1 = wr.heap.size := by have := hG.out.1.1; omega
               have hn2 : ¬ wr.heap.size = w1.heap.size + 1 := by have := hG.out.1.1; omega
               have HM0 : Hid ((if x < E0 then x else E0) = min E0 x) := by unfold Hid; split <;> omega
               have HM1 : Hid ((if y < E1 then y else E1) = min E1 y) := by unfold Hid; split <;> omega
               have HM2 : Hid ((if E2 < x then x else E2) = max E2 x) := by unfold Hid; split <;> omega
               have HM3 : Hid ((if E3 < y then y else E3) = max E3 y) := by unfold Hid; split <;> omega
               go_upto_region 8 with fail
               go_cut [32] from 32 to 60 (fun i wx => i = .int .i64 k ∧ Hid (Has wx (w1.heap.size + 1) [.int .i64 (min E0 x), .int .i64 E1, .int .i64 (max E2 x), .int .i64 E3] ∧ Has wx w.heap.size [.int .i64 0, .int .i64 0, .int .i64 0, .int .i64 0] ∧ Below w1.heap.size w1 wx ∧ Has wx wr.heap.size [.int .i64 x, .int .i64 y]))
               case first =>
                 have g0 := H5.out.1.at_ 0 _ rfl
                 have g2 := H5.out.1.at_ 2 _ rfl
                 have f0 := H5.out.1.free 0
                 have f2 := H5.out.1.free 2
                 have e0 := H5.out.2.2.2.at_ 0 _ rfl
                 go_region
                 rw [HM0.out, HM2.out]
                 go_wp2_with fail
                 go_meet
                 have hne : w1.heap.size + 1 ≠ w.heap.size := by have := HX.out.2.1; omega
                 have P1 := (H5.out.1.set 0 (.int .i64 (min E0 x))).set 2 (.int .i64 (max E2 x))
                 have P2 := (H5.out.2.1.far (p := ⟨w1.heap.size + 1, 0, none⟩) hne (.int .i64 (min E0 x))).far (p := ⟨w1.heap.size + 1, 2, none⟩) hne (.int .i64 (max E2 x))
                 have P3 := (H5.out.2.2.1.setCell (p := ⟨w1.heap.size + 1, 0, none⟩) (Nat.le_succ _) (.int .i64 (min E0 x))).setCell (p := ⟨w1.heap.size + 1, 2, none⟩) (Nat.le_succ _) (.int .i64 (max E2 x))
                 have P4 := (H5.out.2.2.2.far (p := ⟨w1.heap.size + 1, 0, none⟩) hn1 (.int .i64 (min E0 x))).far (p := ⟨w1.heap.size + 1, 2, none⟩) hn1 (.int .i64 (max E2 x))
                 exact ⟨rfl, Lib.hid ⟨P1.drew, P2.drew, P3.drew, P4.drew⟩⟩
               case rest =>
                 obtain ⟨rfl, hC⟩ := hcut
                 obtain ⟨W6, rfl⟩ : ∃ W6 : World, W6 = wc := ⟨_, rfl⟩
                 have H6 := hC
                 clear hC H5
                 have g1 := H6.out.1.at_ 1 _ rfl
                 have g3 := H6.out.1.at_ 3 _ rfl
                 have f1 := H6.out.1.free 1
                 have f3 := H6.out.1.free 3
                 have e1 := H6.out.2.2.2.at_ 1 _ rfl
                 go_wp2_with fail
                 go_region
                 rw [HM1.out, HM3.out]
                 have hne : w1.heap.size + 1 ≠ w.heap.size := by have := HX.out.2.1; omega
                 have P1 := (H6.out.1.set 1 (.int .i64 (min E1 y))).set 3 (.int .i64 (max E3 y))
                 have P2 := (H6.out.2.1.far (p := ⟨w1.heap.size + 1, 1, none⟩) hne (.int .i64 (min E1 y))).far (p := ⟨w1.heap.size + 1, 3, none⟩) hne (.int .i64 (max E3 y))
                 have P3 := (H6.out.2.2.1.setCell (p := ⟨w1.heap.size + 1, 1, none⟩) (Nat.le_succ _) (.int .i64 (min E1 y))).setCell (p := ⟨w1.heap.size + 1, 3, none⟩) (Nat.le_succ _) (.int .i64 (max E3 y))
                 have HN : ∀ W, (Has W (w1.heap.size + 1) [.int .i64 (min E0 x), .int .i64 (min E1 y), .int .i64 (max E2 x), .int .i64 (max E3 y)] ∧ Has W w.heap.size [.int .i64 0, .int .i64 0, .int .i64 0, .int .i64 0] ∧ Below w1.heap.size w1 W) → Hid (Has W (w1.heap.size + 1) [.int .i64 (ext min (·.1) l (k + 1 + 1)), .int .i64 (ext min (·.2) l (k + 1 + 1)), .int .i64 (ext max (·.1) l (k + 1 + 1)), .int .i64 (ext max (·.2) l (k + 1 + 1))] ∧ Has W w.heap.size [.int .i64 0, .int .i64 0, .int .i64 0, .int .i64 0] ∧ Below w1.heap.size w1 W) := fun W hW => by
                   rw [ext_step min (·.1) HL.out, ext_step min (·.2) HL.out, ext_step max (·.1) HL.out, ext_step max (·.2) HL.out, ← HE.out.1, ← HE.out.2.1, ← HE.out.2.2.1, ← HE.out.2.2.2]
                   exact hW
                 have HN2 := Lib.hid (HN _ ⟨P1.drew, P2.drew, P3.drew⟩)
                 clear HN P1 P2 P3 g1 g3 f1 f3 e1
                 go_wp2_with fail
                 go_roundw
                 case rel => exact ⟨k + 1, by omega, by go_num, HN2.out⟩
                 case measure => simp [intOf]; omega)
        · obtain rfl : k = l.length - 1 := by omega
          have hL1 : l.length - 1 + 1 = l.length := by omega
          rw [hL1] at hG
          have HR := Lib.hid (bo_yes HKo.out)
          have z0 := hG.out.2.1.at_ 0 _ rfl
          have z1 := hG.out.2.1.at_ 1 _ rfl
          have z2 := hG.out.2.1.at_ 2 _ rfl
          have z3 := hG.out.2.1.at_ 3 _ rfl
          have f0 := hG.out.2.1.free 0
          have f1 := hG.out.2.1.free 1
          have f2 := hG.out.2.1.free 2
          have f3 := hG.out.2.1.free 3
          have g0 := hG.out.1.at_ 0 _ rfl
          have g1 := hG.out.1.at_ 1 _ rfl
          have g2 := hG.out.1.at_ 2 _ rfl
          have g3 := hG.out.1.at_ 3 _ rfl
          have HF := Lib.hid (bthen HX.out.1 hG.out.2.2 HX.out.1.size)
          clear hL1
          go_wp2_with fail
          refine bodyPost_ret (v := .tuple #[.agg #[.int .i64 (ext min (·.1) l l.length), .int .i64 (ext min (·.2) l l.length), .int .i64 (ext max (·.1) l l.length), .int .i64 (ext max (·.2) l l.length)], .bool true]) (by simp [results, Try.results24, go_sem, z0, z1, z2, z3]) rfl ⟨congrArg Ending.returned HR.out, ?_⟩
          repeat (first | exact HF.out | refine Below.setCell ?_ (by simp; try omega) _)
  · have H1 := Lib.hid h1
    have HR := Lib.hid (bo_no (l := l) (by unfold boK; rw [decide_eq_false h3, Bool.and_false]))
    have hz : l.length ≤ 0 := by omega
    have h0 : ((l.length : Int) == 0) = true := by simpa using hz
    clear h1 h3 hz
    go_enter Try.func24, Try.ntmps24
    go_wp2_with fail
    refine (are_impl_v _ _ _ _ l _ (spots_alloc HS.out _) hm H1.out).mono ?_
    rintro e w1 ⟨rfl, hb⟩
    have HX := Lib.hid (box1 hb)
    clear hb
    have z0 := HX.out.2.at_ 0 _ rfl
    have z1 := HX.out.2.at_ 1 _ rfl
    have z2 := HX.out.2.at_ 2 _ rfl
    have z3 := HX.out.2.at_ 3 _ rfl
    have f0 := HX.out.2.free 0
    have f1 := HX.out.2.free 1
    have f2 := HX.out.2.free 2
    have f3 := HX.out.2.free 3
    go_wp2_with fail
    refine bodyPost_ret (v := .tuple #[.agg #[.int .i64 0, .int .i64 0, .int .i64 0, .int .i64 0], .bool false]) (by simp [results, Try.results24, go_sem, z0, z1, z2, z3]) rfl ⟨congrArg Ending.returned HR.out, ?_⟩
    repeat (first | exact HX.out.1 | refine Below.setCell ?_ (by simp; try omega) _)
end Go.Proofs.Ytjnimedbjmihaaa
