/-
  Draws of the laws of casts: contracts of spec.DrawThinCast, DrawTravelTo, DrawMeanSpeed, DrawCastAt, DrawNearestCast over this translation; laws.rLayers, laws.rCast. Conditions: stated at each theorem.
-/
import Derived.Test.YtdmnkmdlochogabRo
namespace Go.Proofs.Ytdmnkmdlochogab
open Go.RowKit Go.Sort Go.Deep
set_option linter.unusedVariables false

set_option maxRecDepth 100000 in
set_option maxHeartbeats 12800000 in
theorem draw_mean (A : Option Addr) (n c : Nat) (w : World) (h : CodeRow w.heap.size A n w) : Calls Try.prog 60 #[.slice A n c] w (DrawKIPost w) := by
  have HS := Lib.hid h
  obtain ⟨W1, hW1⟩ : ∃ W, W = w.alloc (.cells #[.int .i64 0, .int .i64 0, .int .i64 0, .int .i64 0, .slice none 0 0] 64) := ⟨_, rfl⟩
  have hs1 : W1.heap.size = w.heap.size + 1 := by rw [hW1]; simp
  have HB1 : Hid (Below w.heap.size w W1) := by rw [hW1]; exact Lib.hid ((Below.refl w.heap.size w).alloc (Nat.le_refl _) _)
  have HZ1 : Hid (Has W1 w.heap.size [.int .i64 0, .int .i64 0, .int .i64 0, .int .i64 0, .slice none 0 0]) := by rw [hW1]; exact Lib.hid (by simpa using Has.new w #[.int .i64 0, .int .i64 0, .int .i64 0, .int .i64 0, .slice none 0 0] 64)
  have HE := Lib.hid hW1
  clear h hW1
  go_enter Try.func60, Try.ntmps60
  go_upto_region 1 with fail
  rw [← HE.out]
  go_wp2_with fail
  refine (draw_speed A n c _ (HS.out.below HB1.out HB1.out.size)).mono ?_
  rintro e w4 ⟨id, tm, sp, R, m, c', l, x, rfl, hl, hm9, hO, hb⟩
  have HB4 := Lib.hid (bthen HB1.out hb HB1.out.size)
  have HZ4 := Lib.hid (HZ1.out.next hb)
  have HD := Lib.hid (drawn_ret (lo := W1.heap.size) hO (by omega) HZ4.out HB4.out (.int .i64 id) (.int .i64 tm) (.int .i64 sp.1) (.int .i64 sp.2) (.slice R m c'))
  clear hb hO HB1 HZ1
  have z0 := HZ4.out.at_ 0 _ rfl
  have z1 := HZ4.out.at_ 1 _ rfl
  have z2 := HZ4.out.at_ 2 _ rfl
  have z3 := HZ4.out.at_ 3 _ rfl
  have z4 := HZ4.out.at_ 4 _ rfl
  have f0 := HZ4.out.free 0
  have f1 := HZ4.out.free 1
  have f2 := HZ4.out.free 2
  have f3 := HZ4.out.free 3
  have f4 := HZ4.out.free 4
  have r0 := HD.out.1.at_ 0 _ rfl
  have r1 := HD.out.1.at_ 1 _ rfl
  have r2 := HD.out.1.at_ 2 _ rfl
  have r3 := HD.out.1.at_ 3 _ rfl
  have r4 := HD.out.1.at_ 4 _ rfl
  simp only [setL] at r0 r1 r2 r3 r4
  go_wp2_with fail
  refine bodyPost_ret (v := .tuple #[.agg #[.int .i64 id, .int .i64 tm, .int .i64 sp.1, .int .i64 sp.2, .slice R m c'], .int .i64 x]) (by simp [results, Try.results60, go_sem, r0, r1, r2, r3, r4]) rfl ⟨_, _, _, _, _, _, _, _, rfl, hl, hm9, HD.out.2.1, HD.out.2.2⟩
end Go.Proofs.Ytdmnkmdlochogab
