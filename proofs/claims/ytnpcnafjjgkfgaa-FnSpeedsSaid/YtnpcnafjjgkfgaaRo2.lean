/-
  Draws of the laws of casts: contracts of spec.DrawThinCast, DrawTravelTo, DrawMeanSpeed, DrawCastAt, DrawNearestCast over this translation; laws.rLayers, laws.rCast. Conditions: stated at each theorem.
-/
import Derived.Test.YtnpcnafjjgkfgaaRo
namespace Go.Proofs.Ytnpcnafjjgkfgaa
open Go.RowKit Go.Sort Go.Deep
set_option linter.unusedVariables false

set_option maxRecDepth 100000 in
set_option maxHeartbeats 12800000 in
theorem draw_thin (A : Option Addr) (n c : Nat) (w : World) (h : CodeRow w.heap.size A n w) : Calls Try.prog 20 #[.slice A n c] w (DrawKPost w) := by
  have HS := Lib.hid h
  obtain ⟨W1, hW1⟩ : ∃ W, W = w.alloc (.cells #[.int .i64 0, .int .i64 0, .int .i64 0, .int .i64 0, .slice none 0 0] 28) := ⟨_, rfl⟩
  have hs1 : W1.heap.size = w.heap.size + 1 := by rw [hW1]; simp
  have HB1 : Hid (Below w.heap.size w W1) := by rw [hW1]; exact Lib.hid ((Below.refl w.heap.size w).alloc (Nat.le_refl _) _)
  have HZ1 : Hid (Has W1 w.heap.size [.int .i64 0, .int .i64 0, .int .i64 0, .int .i64 0, .slice none 0 0]) := by rw [hW1]; exact Lib.hid (by simpa using Has.new w #[.int .i64 0, .int .i64 0, .int .i64 0, .int .i64 0, .slice none 0 0] 28)
  have HE := Lib.hid hW1
  clear h hW1
  go_enter Try.func20, Try.ntmps20
  go_upto_region 1 with fail
  rw [← HE.out]
  go_wp2_with fail
  refine (draw_is A n c _ (HS.out.below HB1.out HB1.out.size)).mono ?_
  rintro e w4 ⟨id, tm, sp, R, m, c', l, rfl, hl, hm9, hO, hb⟩
  have HB4 := Lib.hid (bthen HB1.out hb HB1.out.size)
  have HZ4 := Lib.hid (HZ1.out.next hb)
  have HD := Lib.hid (drawn_ret (lo := W1.heap.size) hO (by omega) HZ4.out HB4.out (.int .i64 id) (.int .i64 tm) (.int .i64 sp.1) (.int .i64 sp.2) (.slice R m c'))
  clear hb hO HB1 HZ1
  have z0 := HZ4.out.at_ 0 _ rfl
  have z1 := HZ4.out.at_ 1 _ rfl
  have z2 := HZ4.out.at_ 2 _ rfl
  have z3 := HZ4.out.at_ 3 _ rfl
  have z4 := HZ4.out.at_ 4 _ rfl
  have f0 := HZ4.out.free 0
  have f1 := HZ4.out.free 1
  have f2 := HZ4.out.free 2
  have f3 := HZ4.out.free 3
  have f4 := HZ4.out.free 4
  have r0 := HD.out.1.at_ 0 _ rfl
  have r1 := HD.out.1.at_ 1 _ rfl
  have r2 := HD.out.1.at_ 2 _ rfl
  have r3 := HD.out.1.at_ 3 _ rfl
  have r4 := HD.out.1.at_ 4 _ rfl
  simp only [setL] at r0 r1 r2 r3 r4
  go_wp2_with fail
  refine bodyPost_ret (v := .agg #[.int .i64 id, .int .i64 tm, .int .i64 sp.1, .int .i64 sp.2, .slice R m c']) (by simp [results, Try.results20, go_sem, r0, r1, r2, r3, r4]) rfl ⟨_, _, _, _, _, _, _, rfl, hl, hm9, HD.out.2.1, HD.out.2.2⟩
set_option maxRecDepth 100000 in
set_option maxHeartbeats 12800000 in
theorem draw_travel (A : Option Addr) (n c : Nat) (w : World) (h : CodeRow w.heap.size A n w) : Calls Try.prog 29 #[.slice A n c] w (DrawKIPost w) := by
  have HS := Lib.hid h
  obtain ⟨W1, hW1⟩ : ∃ W, W = w.alloc (.cells #[.int .i64 0, .int .i64 0, .int .i64 0, .int .i64 0, .slice none 0 0] 28) := ⟨_, rfl⟩
  have hs1 : W1.heap.size = w.heap.size + 1 := by rw [hW1]; simp
  have HB1 : Hid (Below w.heap.size w W1) := by rw [hW1]; exact Lib.hid ((Below.refl w.heap.size w).alloc (Nat.le_refl _) _)
  have HZ1 : Hid (Has W1 w.heap.size [.int .i64 0, .int .i64 0, .int .i64 0, .int .i64 0, .slice none 0 0]) := by rw [hW1]; exact Lib.hid (by simpa using Has.new w #[.int .i64 0, .int .i64 0, .int .i64 0, .int .i64 0, .slice none 0 0] 28)
  have HE := Lib.hid hW1
  clear h hW1
  go_enter Try.func29, Try.ntmps29
  go_upto_region 1 with fail
  rw [← HE.out]
  go_wp2_with fail
  refine (draw_speed A n c _ (HS.out.below HB1.out HB1.out.size)).mono ?_
  rintro e w4 ⟨id, tm, sp, R, m, c', l, x, rfl, hl, hm9, hO, hb⟩
  have HB4 := Lib.hid (bthen HB1.out hb HB1.out.size)
  have HZ4 := Lib.hid (HZ1.out.next hb)
  have HD := Lib.hid (drawn_ret (lo := W1.heap.size) hO (by omega) HZ4.out HB4.out (.int .i64 id) (.int .i64 tm) (.int .i64 sp.1) (.int .i64 sp.2) (.slice R m c'))
  clear hb hO HB1 HZ1
  have z0 := HZ4.out.at_ 0 _ rfl
  have z1 := HZ4.out.at_ 1 _ rfl
  have z2 := HZ4.out.at_ 2 _ rfl
  have z3 := HZ4.out.at_ 3 _ rfl
  have z4 := HZ4.out.at_ 4 _ rfl
  have f0 := HZ4.out.free 0
  have f1 := HZ4.out.free 1
  have f2 := HZ4.out.free 2
  have f3 := HZ4.out.free 3
  have f4 := HZ4.out.free 4
  have r0 := HD.out.1.at_ 0 _ rfl
  have r1 := HD.out.1.at_ 1 _ rfl
  have r2 := HD.out.1.at_ 2 _ rfl
  have r3 := HD.out.1.at_ 3 _ rfl
  have r4 := HD.out.1.at_ 4 _ rfl
  simp only [setL] at r0 r1 r2 r3 r4
  go_wp2_with fail
  refine bodyPost_ret (v := .tuple #[.agg #[.int .i64 id, .int .i64 tm, .int .i64 sp.1, .int .i64 sp.2, .slice R m c'], .int .i64 x]) (by simp [results, Try.results29, go_sem, r0, r1, r2, r3, r4]) rfl ⟨_, _, _, _, _, _, _, _, rfl, hl, hm9, HD.out.2.1, HD.out.2.2⟩
set_option maxRecDepth 100000 in
set_option maxHeartbeats 12800000 in
theorem draw_mean (A : Option Addr) (n c : Nat) (w : World) (h : CodeRow w.heap.size A n w) : Calls Try.prog 31 #[.slice A n c] w (DrawKIPost w) := by
  have HS := Lib.hid h
  obtain ⟨W1, hW1⟩ : ∃ W, W = w.alloc (.cells #[.int .i64 0, .int .i64 0, .int .i64 0, .int .i64 0, .slice none 0 0] 28) := ⟨_, rfl⟩
  have hs1 : W1.heap.size = w.heap.size + 1 := by rw [hW1]; simp
  have HB1 : Hid (Below w.heap.size w W1) := by rw [hW1]; exact Lib.hid ((Below.refl w.heap.size w).alloc (Nat.le_refl _) _)
  have HZ1 : Hid (Has W1 w.heap.size [.int .i64 0, .int .i64 0, .int .i64 0, .int .i64 0, .slice none 0 0]) := by rw [hW1]; exact Lib.hid (by simpa using Has.new w #[.int .i64 0, .int .i64 0, .int .i64 0, .int .i64 0, .slice none 0 0] 28)
  have HE := Lib.hid hW1
  clear h hW1
  go_enter Try.func31, Try.ntmps31
  go_upto_region 1 with fail
  rw [← HE.out]
  go_wp2_with fail
  refine (draw_speed A n c _ (HS.out.below HB1.out HB1.out.size)).mono ?_
  rintro e w4 ⟨id, tm, sp, R, m, c', l, x, rfl, hl, hm9, hO, hb⟩
  have HB4 := Lib.hid (bthen HB1.out hb HB1.out.size)
  have HZ4 := Lib.hid (HZ1.out.next hb)
  have HD := Lib.hid (drawn_ret (lo := W1.heap.size) hO (by omega) HZ4.out HB4.out (.int .i64 id) (.int .i64 tm) (.int .i64 sp.1) (.int .i64 sp.2) (.slice R m c'))
  clear hb hO HB1 HZ1
  have z0 := HZ4.out.at_ 0 _ rfl
  have z1 := HZ4.out.at_ 1 _ rfl
  have z2 := HZ4.out.at_ 2 _ rfl
  have z3 := HZ4.out.at_ 3 _ rfl
  have z4 := HZ4.out.at_ 4 _ rfl
  have f0 := HZ4.out.free 0
  have f1 := HZ4.out.free 1
  have f2 := HZ4.out.free 2
  have f3 := HZ4.out.free 3
  have f4 := HZ4.out.free 4
  have r0 := HD.out.1.at_ 0 _ rfl
  have r1 := HD.out.1.at_ 1 _ rfl
  have r2 := HD.out.1.at_ 2 _ rfl
  have r3 := HD.out.1.at_ 3 _ rfl
  have r4 := HD.out.1.at_ 4 _ rfl
  simp only [setL] at r0 r1 r2 r3 r4
  go_wp2_with fail
  refine bodyPost_ret (v := .tuple #[.agg #[.int .i64 id, .int .i64 tm, .int .i64 sp.1, .int .i64 sp.2, .slice R m c'], .int .i64 x]) (by simp [results, Try.results31, go_sem, r0, r1, r2, r3, r4]) rfl ⟨_, _, _, _, _, _, _, _, rfl, hl, hm9, HD.out.2.1, HD.out.2.2⟩
/-! ### laws.rLayers, laws.rCast -/
set_option maxHeartbeats 800000 in
theorem rL_same (A A' : Option Addr) (n c c' : Nat) (l : List (Int × Int)) (w : World) (h1 : Spots w w.heap.size A n l) (h2 : Spots w w.heap.size A' n l) (hm : n ≤ maxLen) :
    Calls Try.prog 69 #[.slice A n c, .slice A' n c'] w fun e w' => e = .returned (.bool true) ∧ Below w.heap.size w w' := by
  unfold maxLen at hm
  go_enter Try.func69, Try.ntmps69
  go_wp2
  go_loopw [5] (fun i wr => ∃ k : Nat, k ≤ n ∧ i = .int .i64 k ∧ Hid (Below w.heap.size w wr)) (fun i _ => n - (intOf i).toNat)
  case atStart => exact ⟨0, Nat.zero_le _, rfl, Lib.hid (Below.refl _ _)⟩
  case round =>
    obtain ⟨k, hk, rfl, hB⟩ := hrel
    by_cases hlt : k < n
    · obtain ⟨g, o, x, y, rfl, hg, hl, c0, c1⟩ := h1.2 k hlt
      obtain ⟨g', o', x', y', rfl, hg', hl', c0', c1'⟩ := h2.2 k hlt
      obtain ⟨rfl, rfl⟩ : x = x' ∧ y = y' := by rw [hl] at hl'; injection hl' with h; injection h with h3 h4; exact ⟨h3, h4⟩
      replace c0 := (hB.out.cell (p := ⟨g, _, none⟩) hg).trans c0
      replace c1 := (hB.out.cell (p := ⟨g, _, none⟩) hg).trans c1
      replace c0' := (hB.out.cell (p := ⟨g', _, none⟩) hg').trans c0'
      replace c1' := (hB.out.cell (p := ⟨g', _, none⟩) hg').trans c1'
      go_wp2_with fail
      go_quiet (fail)
      have HD := Lib.hid (bdrewN hB.out nq)
      go_wp2_with fail
      go_roundw
      case rel => exact ⟨k + 1, by omega, by go_num, HD⟩
      case measure => simp [intOf]; omega
    · have HD := hB
      go_wp2
      go_ret
      exact ⟨rfl, HD.out⟩
set_option maxHeartbeats 1600000 in
theorem rK_same (id tm x y : Int) (A A' : Option Addr) (n c c' : Nat) (l : List (Int × Int)) (w : World) (h1 : Spots w w.heap.size A n l) (h2 : Spots w w.heap.size A' n l) (hm : n ≤ maxLen) :
    Calls Try.prog 23 #[.agg #[.int .i64 id, .int .i64 tm, .int .i64 x, .int .i64 y, .slice A n c], .agg #[.int .i64 id, .int .i64 tm, .int .i64 x, .int .i64 y, .slice A' n c']] w fun e w' => e = .returned (.bool true) ∧ Below w.heap.size w w' := by
  have HX1 := Lib.hid (box1 (w := w) (cs := #[.int .i64 id, .int .i64 tm, .int .i64 x, .int .i64 y, .slice A n c]) (T := 28) (Below.refl _ _))
  have HX2 := Lib.hid (box1 (w := w.alloc (.cells #[.int .i64 id, .int .i64 tm, .int .i64 x, .int .i64 y, .slice A n c] 28)) (cs := #[.int .i64 id, .int .i64 tm, .int .i64 x, .int .i64 y, .slice A' n c']) (T := 28) (Below.refl _ _))
  have HB2 := Lib.hid (bthen HX1.out.1 HX2.out.1 HX1.out.1.size)
  have HS1 := Lib.hid (spots_at h1 HB2.out)
  have HS2 := Lib.hid (spots_at h2 HB2.out)
  have HF := Lib.hid (HX1.out.2.next HX2.out.1)
  clear h1 h2
  have a0 := HF.out.at_ 0 _ rfl
  have a1 := HF.out.at_ 1 _ rfl
  have a2 := HF.out.at_ 2 _ rfl
  have a3 := HF.out.at_ 3 _ rfl
  have a4 := HF.out.at_ 4 _ rfl
  have b0 := HX2.out.2.at_ 0 _ rfl
  have b1 := HX2.out.2.at_ 1 _ rfl
  have b2 := HX2.out.2.at_ 2 _ rfl
  have b3 := HX2.out.2.at_ 3 _ rfl
  have b4 := HX2.out.2.at_ 4 _ rfl
  simp only [World.size_alloc] at b0 b1 b2 b3 b4
  go_enter Try.func23, Try.ntmps23
  go_wp2_with fail
  refine (rL_same _ _ _ _ _ l _ HS1.out HS2.out hm).mono ?_
  rintro e w1 ⟨rfl, hb⟩
  have HD := Lib.hid (bthen HB2.out hb HB2.out.size)
  clear hb
  go_wp2_with fail
  go_ret
  exact ⟨rfl, HD.out⟩
end Go.Proofs.Ytnpcnafjjgkfgaa
