/-
  What the laws do with casts: contracts of laws.toSpot, eqSpot, szCast, toCast, eqCast, markCast, heldCast over this translation. Conditions: stated at each theorem.
-/
import Derived.Test.YtdmnkmdlochogabZd
namespace Go.Proofs.Ytdmnkmdlochogab
open Go.RowKit

theorem toSpotK_any (x y : Int) (w : World) :
    Calls Try.prog 152 #[.agg #[.int .i64 x, .int .i64 y]] w fun e w' => e = .returned (.agg #[.int .i64 x, .int .i64 y]) ∧ Below w.heap.size w w' := by
  go_enter Try.func152, Try.ntmps152
  go_wp2
  refine bodyPost_ret (v := .agg #[.int .i64 x, .int .i64 y]) (by simp [results, Try.results152, go_sem]) rfl ⟨rfl, ?_⟩
  repeat (first | exact Below.refl _ _ | refine Below.setCell ?_ (by simp; try omega) _ | refine Below.alloc ?_ (by simp; try omega) _)
theorem eqSpotK_same (x y : Int) (w : World) :
    Calls Try.prog 154 #[.agg #[.int .i64 x, .int .i64 y], .agg #[.int .i64 x, .int .i64 y]] w fun e w' => e = .returned (.bool true) ∧ Below w.heap.size w w' := by
  go_enter Try.func154, Try.ntmps154
  go_wp2
  go_ret
  refine ⟨rfl, ?_⟩
  repeat (first | exact Below.refl _ _ | refine Below.alloc ?_ (by simp; try omega) _)
/-! ### laws.szCast -/
theorem szK_pos (id tm x y : Int) (A : Option Addr) (n c : Nat) (m : Int) (w : World) (hm : m ≤ 1048576) (h : (n : Int) ≤ m) :
    Calls Try.prog 77 #[.agg #[.int .i64 id, .int .i64 tm, .int .i64 x, .int .i64 y, .slice A n c], .int .i64 m] w fun e w' => e = .returned (.int .i64 (m - n)) ∧ Below w.heap.size w w' := by
  go_enter Try.func77, Try.ntmps77
  go_wp2_with fail
  refine (szQ_pos A n c _ _ (by omega) (by omega)).mono ?_
  rintro e w' ⟨rfl, rfl⟩
  go_wp2_with fail
  go_ret
  exact ⟨rfl, (Below.refl _ _).alloc (Nat.le_refl _) _⟩
theorem szK_neg (id tm x y : Int) (A : Option Addr) (n c : Nat) (m : Int) (w : World) (h0 : 0 ≤ m) (hm : m ≤ 1048576) (hl : n ≤ maxLen) (h : m < (n : Int)) :
    Calls Try.prog 77 #[.agg #[.int .i64 id, .int .i64 tm, .int .i64 x, .int .i64 y, .slice A n c], .int .i64 m] w fun e w' => e = .returned (.int .i64 (-1)) ∧ Below w.heap.size w w' := by
  have hl' := hl
  unfold maxLen at hl
  go_enter Try.func77, Try.ntmps77
  go_wp2_with fail
  refine (szQ_neg A n c _ _ (by omega) (by omega) (by omega) hl').mono ?_
  rintro e w' ⟨rfl, rfl⟩
  go_wp2_with fail
  go_ret
  exact ⟨rfl, (Below.refl _ _).alloc (Nat.le_refl _) _⟩
/-! ### laws.toCast -/
def CopyK (id tm x y : Int) (l : List (Int × Int)) (w : World) (e : Ending) (w' : World) : Prop :=
  ∃ g, e = .returned (.agg #[.int .i64 id, .int .i64 tm, .int .i64 x, .int .i64 y, .slice (some ⟨g, 0, none⟩) l.length l.length]) ∧ Own2 w' w.heap.size w'.heap.size (some ⟨g, 0, none⟩) l.length l ∧ Below w.heap.size w w'
set_option maxHeartbeats 800000 in
theorem toCast_any (id tm x y : Int) (A : Option Addr) (n c : Nat) (l : List (Int × Int)) (w : World) (hs : Spots w w.heap.size A n l) (hn : n ≤ 1048576) :
    Calls Try.prog 78 #[.agg #[.int .i64 id, .int .i64 tm, .int .i64 x, .int .i64 y, .slice A n c]] w (CopyK id tm x y l w) := by
  have HS := Lib.hid hs
  clear hs
  go_enter Try.func78, Try.ntmps78
  go_wp2_with fail
  refine (toSpotK_any x y _).mono ?_
  rintro e w0 ⟨rfl, hb0⟩
  have HX0 := Lib.hid (box3 hb0)
  have HS0 := Lib.hid (spots_at HS.out HX0.out.1)
  clear hb0
  have c4 := HX0.out.2.1.at_ 4 _ rfl
  have c2 := HX0.out.2.1.at_ 2 _ rfl
  have c3 := HX0.out.2.1.at_ 3 _ rfl
  have a2 := HX0.out.2.2.2.at_ 2 _ rfl
  have a3 := HX0.out.2.2.2.at_ 3 _ rfl
  have f2 := HX0.out.2.2.2.free 2
  have f3 := HX0.out.2.2.2.free 3
  have hz := HX0.out.2.2.2.1
  have HB1 := Lib.hid ((HX0.out.1.setCell (p := ⟨w.heap.size + 1 + 1, 2, none⟩) (by simp; omega) (.int .i64 x)).setCell (p := ⟨w.heap.size + 1 + 1, 3, none⟩) (by simp; omega) (.int .i64 y))
  have HA1 := Lib.hid ((HX0.out.2.2.2.set 2 (.int .i64 x)).set 3 (.int .i64 y))
  have HR1 := Lib.hid ((HX0.out.2.2.1.far (p := ⟨w.heap.size + 1 + 1, 2, none⟩) (by simp) (.int .i64 x)).far (p := ⟨w.heap.size + 1 + 1, 3, none⟩) (by simp) (.int .i64 y))
  go_wp2_with fail
  obtain ⟨W1, hW1⟩ : ∃ W, W = (w0.setCell ⟨w.heap.size + 1 + 1, 2, none⟩ (.int .i64 x)).setCell ⟨w.heap.size + 1 + 1, 3, none⟩ (.int .i64 y) := ⟨_, rfl⟩
  rw [← hW1] at HB1 HA1 HR1
  rw [← hW1]
  clear hW1 c2 c3 c4 a2 a3 f2 f3 hz HX0 HS0
  refine (copyQ_any A n c l _ (spots_at HS.out HB1.out) hn).mono ?_
  rintro e w1 ⟨g, rfl, hO, hb⟩
  have HX := Lib.hid (And.intro (HA1.out.next hb) (And.intro (HR1.out.next hb) (And.intro (bthen HB1.out hb HB1.out.size) hO)))
  have hg : W1.heap.size ≤ w1.heap.size := hb.size
  have hz : w.heap.size + 1 + 1 < W1.heap.size := HA1.out.1
  clear hO hb HA1 HR1 HB1
  have a0 : w1.cell? ⟨w.heap.size + 1 + 1, 0, none⟩ = some (.int .i64 id) := HX.out.1.at_ 0 _ rfl
  have a1 : w1.cell? ⟨w.heap.size + 1 + 1, 1, none⟩ = some (.int .i64 tm) := HX.out.1.at_ 1 _ rfl
  have a2 : w1.cell? ⟨w.heap.size + 1 + 1, 2, none⟩ = some (.int .i64 x) := HX.out.1.at_ 2 _ rfl
  have a3 : w1.cell? ⟨w.heap.size + 1 + 1, 3, none⟩ = some (.int .i64 y) := HX.out.1.at_ 3 _ rfl
  have a4 : w1.cell? ⟨w.heap.size + 1 + 1, 4, none⟩ = some (.slice none 0 0) := HX.out.1.at_ 4 _ rfl
  have f4 := HX.out.1.free 4
  have b0 := HX.out.2.1.at_ 0 _ rfl
  have b1 := HX.out.2.1.at_ 1 _ rfl
  have b2 := HX.out.2.1.at_ 2 _ rfl
  have b3 := HX.out.2.1.at_ 3 _ rfl
  have b4 := HX.out.2.1.at_ 4 _ rfl
  have d0 := HX.out.2.1.free 0
  have d1 := HX.out.2.1.free 1
  have d2 := HX.out.2.1.free 2
  have d3 := HX.out.2.1.free 3
  have d4 := HX.out.2.1.free 4
  go_wp2_with fail
  refine bodyPost_ret (v := .agg #[.int .i64 id, .int .i64 tm, .int .i64 x, .int .i64 y, .slice (some ⟨g, 0, none⟩) l.length l.length]) (by simp [results, Try.results78, go_sem, b0, b1, b2, b3, b4]) rfl ⟨g, rfl, ?_, ?_⟩
  · refine ((((((HX.out.2.2.2.put _ _ ?_).put _ _ ?_).put _ _ ?_).put _ _ ?_).put _ _ ?_).put _ _ ?_).wide ?_ ?_
    all_goals (try simp)
    all_goals try omega
  · repeat (first | with_reducible exact HX.out.2.2.1 | refine Below.setCell ?_ (by simp; try omega) _)
/-! ### laws.eqCast -/
theorem eqK_same (id tm x y : Int) (A A' : Option Addr) (n c c' : Nat) (l : List (Int × Int)) (w : World) (h1 : Spots w w.heap.size A n l) (h2 : Spots w w.heap.size A' n l) (hm : n ≤ maxLen) :
    Calls Try.prog 79 #[.agg #[.int .i64 id, .int .i64 tm, .int .i64 x, .int .i64 y, .slice A n c], .agg #[.int .i64 id, .int .i64 tm, .int .i64 x, .int .i64 y, .slice A' n c']] w fun e w' => e = .returned (.bool true) ∧ Below w.heap.size w w' := by
  have H1 := Lib.hid h1
  have H2 := Lib.hid h2
  clear h1 h2
  go_enter Try.func79, Try.ntmps79
  go_wp2_with fail
  refine (eqSpotK_same x y _).mono ?_
  rintro e w0 ⟨rfl, hb0⟩
  have HX0 := Lib.hid (box2 hb0)
  have S1 := Lib.hid (spots_at H1.out HX0.out.1)
  have S2 := Lib.hid (spots_at H2.out HX0.out.1)
  have a4 := HX0.out.2.1.at_ 4 _ rfl
  have b4 := HX0.out.2.2.at_ 4 _ rfl
  clear hb0
  go_wp2_with fail
  refine (eqQ_same A A' n c c' l _ S1.out S2.out hm).mono ?_
  rintro e w1 ⟨rfl, hb⟩
  have HT := Lib.hid (bthen HX0.out.1 hb HX0.out.1.size)
  clear hb
  go_wp2_with fail
  go_ret
  exact ⟨rfl, HT.out⟩
end Go.Proofs.Ytdmnkmdlochogab
