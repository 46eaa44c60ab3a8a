/-
  What the laws do with gauges: contracts of laws.szGauge, toGauge, eqGauge, markGauge, heldGauge over this translation. Conditions: stated at each theorem.
-/
import Derived.Test.YtdmnkmdlochogaaRd
namespace Go.Proofs.Ytdmnkmdlochogaa
open Go.RowKit

/-! ### laws.szGauge -/
theorem szG_pos (id ze : Int) (nm : ByteArray) (A : Option Addr) (n c : Nat) (m : Int) (w : World) (hm : m ≤ 1048576) (h : (nm.size : Int) + n ≤ m) :
    Calls Try.prog 143 #[.agg #[.int .i64 id, .string nm, .int .i64 ze, .slice A n c], .int .i64 m] w fun e w' => e = .returned (.int .i64 (m - nm.size - n)) ∧ Below w.heap.size w w' := by
  go_enter Try.func143, Try.ntmps143
  go_wp2_with fail
  refine (szR_pos A n c _ _ (by omega) (by omega)).mono ?_
  rintro e w' ⟨rfl, rfl⟩
  go_wp2_with fail
  go_ret
  exact ⟨rfl, (Below.refl _ _).alloc (Nat.le_refl _) _⟩
theorem szG_neg (id ze : Int) (nm : ByteArray) (A : Option Addr) (n c : Nat) (m : Int) (w : World) (h0 : 0 ≤ m) (hm : m ≤ 1048576) (hn : nm.size ≤ maxLen) (hl : n ≤ maxLen) (h : m < (nm.size : Int) + n) :
    Calls Try.prog 143 #[.agg #[.int .i64 id, .string nm, .int .i64 ze, .slice A n c], .int .i64 m] w fun e w' => e = .returned (.int .i64 (-1)) ∧ Below w.heap.size w w' := by
  have hl' := hl
  unfold maxLen at hn hl
  by_cases h1 : m < nm.size
  · go_enter Try.func143, Try.ntmps143
    go_wp2_with fail
    go_ret
    exact ⟨rfl, (Below.refl _ _).alloc (Nat.le_refl _) _⟩
  · go_enter Try.func143, Try.ntmps143
    go_wp2_with fail
    refine (szR_neg A n c _ _ (by omega) (by omega) (by omega) hl').mono ?_
    rintro e w' ⟨rfl, rfl⟩
    go_wp2_with fail
    go_ret
    exact ⟨rfl, (Below.refl _ _).alloc (Nat.le_refl _) _⟩
/-! ### laws.toGauge -/
def CopyG (id ze : Int) (nm : ByteArray) (l : List (Int × Int)) (w : World) (e : Ending) (w' : World) : Prop :=
  ∃ g, e = .returned (.agg #[.int .i64 id, .string nm, .int .i64 ze, .slice (some ⟨g, 0, none⟩) l.length l.length]) ∧ Own2 w' w.heap.size w'.heap.size (some ⟨g, 0, none⟩) l.length l ∧ Below w.heap.size w w'
set_option maxHeartbeats 800000 in
theorem toGauge_any (id ze : Int) (nm : ByteArray) (A : Option Addr) (n c : Nat) (l : List (Int × Int)) (w : World) (hs : Spots w w.heap.size A n l) (hn : n ≤ 1048576) :
    Calls Try.prog 144 #[.agg #[.int .i64 id, .string nm, .int .i64 ze, .slice A n c]] w (CopyG id ze nm l w) := by
  have HS := Lib.hid hs
  clear hs
  go_enter Try.func144, Try.ntmps144
  go_wp2_with fail
  refine (copyR_any A n c l _ (spots_alloc (spots_alloc (spots_alloc HS.out _) _) _) hn).mono ?_
  rintro e w1 ⟨g, rfl, hO, hb⟩
  have HX := Lib.hid (And.intro (box3 hb) hO)
  clear hO hb
  have a0 := HX.out.1.2.2.2.at_ 0 _ rfl
  have a1 := HX.out.1.2.2.2.at_ 1 _ rfl
  have a2 := HX.out.1.2.2.2.at_ 2 _ rfl
  have a3 := HX.out.1.2.2.2.at_ 3 _ rfl
  have f3 := HX.out.1.2.2.2.free 3
  have b0 := HX.out.1.2.2.1.at_ 0 _ rfl
  have b1 := HX.out.1.2.2.1.at_ 1 _ rfl
  have b2 := HX.out.1.2.2.1.at_ 2 _ rfl
  have b3 := HX.out.1.2.2.1.at_ 3 _ rfl
  have d0 := HX.out.1.2.2.1.free 0
  have d1 := HX.out.1.2.2.1.free 1
  have d2 := HX.out.1.2.2.1.free 2
  have d3 := HX.out.1.2.2.1.free 3
  go_wp2_with fail
  refine bodyPost_ret (v := .agg #[.int .i64 id, .string nm, .int .i64 ze, .slice (some ⟨g, 0, none⟩) l.length l.length]) (by simp [results, Try.results144, go_sem, b0, b1, b2, b3]) rfl ⟨g, rfl, ?_, ?_⟩
  · refine (((((HX.out.2.put _ _ ?_).put _ _ ?_).put _ _ ?_).put _ _ ?_).put _ _ ?_).wide ?_ ?_
    all_goals simp
    all_goals try omega
  · repeat (first | exact HX.out.1.1 | refine Below.setCell ?_ (by simp; try omega) _)
/-! ### laws.eqGauge -/
theorem eqG_same (id ze : Int) (nm : ByteArray) (A A' : Option Addr) (n c c' : Nat) (l : List (Int × Int)) (w : World) (h1 : Spots w w.heap.size A n l) (h2 : Spots w w.heap.size A' n l) (hm : n ≤ maxLen) :
    Calls Try.prog 145 #[.agg #[.int .i64 id, .string nm, .int .i64 ze, .slice A n c], .agg #[.int .i64 id, .string nm, .int .i64 ze, .slice A' n c']] w fun e w' => e = .returned (.bool true) ∧ Below w.heap.size w w' := by
  have H1 := Lib.hid h1
  have H2 := Lib.hid h2
  clear h1 h2
  go_enter Try.func145, Try.ntmps145
  go_wp2_with fail
  refine (eqR_same A A' n c c' l _ (spots_alloc (spots_alloc H1.out _) _) (spots_alloc (spots_alloc H2.out _) _) hm).mono ?_
  rintro e w1 ⟨rfl, hb⟩
  have HX := Lib.hid (box2 hb)
  clear hb
  go_wp2_with fail
  go_ret
  exact ⟨rfl, HX.out.1⟩
/-! ### laws.markGauge, laws.heldGauge -/
end Go.Proofs.Ytdmnkmdlochogaa
