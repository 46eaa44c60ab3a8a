/-
  Fractions: contracts of impl.fraction.plus, .negated, .isAbove, impl.Stratum.timeFor over this translation. Conditions: stated at each theorem.
-/
import Derived.Test.YtdmnkmdlochogabYg
namespace Go.Proofs.Ytdmnkmdlochogab
open Go.RowKit

/-- A rational number handed back as a struct. -/
def FracPost (q : Rat) (w : World) (e : Ending) (w' : World) : Prop := e = .returned (.agg #[.int .i64 q.num, .int .i64 q.den]) ∧ Below w.heap.size w w'
theorem Below.made {B : Nat} {w w' : World} (h : Below B w w') (hB : B ≤ w.heap.size) (o : Obj) : Below B w (w'.alloc o) := h.alloc (Nat.le_trans hB h.size) o
set_option maxHeartbeats 1600000 in
theorem plus_impl (n1 n2 : Int) (d1 d2 : Nat) (q : Rat) (h : mkRat (n1 * d2 + n2 * d1) (d1 * d2) = q) (w : World) (a1 : -4000000000000000000 ≤ n1 * d2) (a2 : n1 * d2 ≤ 4000000000000000000) (b1 : -4000000000000000000 ≤ n2 * d1) (b2 : n2 * d1 ≤ 4000000000000000000)
    (h1 : 0 < d1) (h2 : 0 < d2) (h3 : d1 * d2 ≤ 9000000000000000000) :
    Calls Try.prog 169 #[.agg #[.int .i64 n1, .int .i64 d1], .agg #[.int .i64 n2, .int .i64 d2]] w (FracPost q w) := by
  obtain ⟨a, ha⟩ : ∃ a, a = n1 * (d2 : Int) := ⟨_, rfl⟩
  obtain ⟨b, hb⟩ : ∃ b, b = n2 * (d1 : Int) := ⟨_, rfl⟩
  obtain ⟨D, hD⟩ : ∃ D, D = d1 * d2 := ⟨_, rfl⟩
  have hp := Nat.mul_pos h1 h2
  rw [← ha, ← hb, ← hD] at h
  rw [← ha] at a1 a2
  rw [← hb] at b1 b2
  rw [← hD] at h3 hp
  have hDi : (d1 : Int) * (d2 : Int) = (D : Int) := by rw [hD, Int.natCast_mul]
  have ha' := ha.symm
  have hb' := hb.symm
  have H := Lib.hid h
  clear h ha hb hD
  go_enter Try.func169, Try.ntmps169
  go_wp2_with fail
  obtain ⟨V, hV⟩ : ∃ V, V = ((w.alloc (.cells #[.int .i64 n1, .int .i64 d1] 131)).alloc (.cells #[.int .i64 n2, .int .i64 d2] 131)).alloc (.cells #[.int .i64 0, .int .i64 0] 131) := ⟨_, rfl⟩
  have HV : Hid (Below w.heap.size w V ∧ Has V (w.heap.size + 1 + 1) [.int .i64 0, .int .i64 0]) := by
    rw [hV]
    have h := box3 (w := w) (cs := #[.int .i64 n1, .int .i64 d1]) (ds := #[.int .i64 n2, .int .i64 d2]) (es := #[.int .i64 0, .int .i64 0]) (T := 131) (T' := 131) (T'' := 131) (Below.refl _ _)
    exact Lib.hid ⟨h.1, h.2.2.2⟩
  rw [← hV]
  clear hV
  refine (lowestQ_impl (a + b) D q H.out _ (by omega) (by omega) hp h3).mono ?_
  rintro e w1 ⟨rfl, hb⟩
  have HN := Lib.hid (And.intro (bthen HV.out.1 hb HV.out.1.size) (HV.out.2.next hb))
  clear hb
  have z0 := HN.out.2.at_ 0 _ rfl
  have z1 := HN.out.2.at_ 1 _ rfl
  have zf0 := HN.out.2.free 0
  have zf1 := HN.out.2.free 1
  go_wp2_with fail
  refine bodyPost_ret (v := .agg #[.int .i64 q.num, .int .i64 q.den]) (by simp [results, Try.results169, go_sem, z0, z1]) rfl ⟨rfl, ?_⟩
  repeat (first | exact HN.out.1 | refine Below.setCell ?_ (by simp; try omega) _)
theorem timeFor_impl (x y d v : Int) (h : 10 * d = v) (w : World) (h0 : 0 ≤ d) (h1 : d ≤ 100000) :
    Calls Try.prog 170 #[.agg #[.int .i64 x, .int .i64 y], .int .i64 d] w fun e w' => e = .returned (.agg #[.int .i64 v, .int .i64 y]) ∧ Below w.heap.size w w' := by
  subst h
  go_enter Try.func170, Try.ntmps170
  go_wp2_with fail
  refine bodyPost_ret (v := .agg #[.int .i64 (10 * d), .int .i64 y]) (by simp [results, Try.results170, go_sem]) rfl ⟨rfl, ?_⟩
  repeat (first | exact Below.refl _ _ | refine Below.setCell ?_ (by simp; try omega) _ | refine Below.alloc ?_ (by simp; try omega) _)
theorem neg_impl (n d : Int) (w : World) (h0 : -4000000000000000000 ≤ n) (h1 : n ≤ 4000000000000000000) :
    Calls Try.prog 172 #[.agg #[.int .i64 n, .int .i64 d]] w fun e w' => e = .returned (.agg #[.int .i64 (-n), .int .i64 d]) ∧ Below w.heap.size w w' := by
  go_enter Try.func172, Try.ntmps172
  go_wp2_with fail
  refine bodyPost_ret (v := .agg #[.int .i64 (-n), .int .i64 d]) (by simp [results, Try.results172, go_sem]) rfl ⟨rfl, ?_⟩
  repeat (first | exact Below.refl _ _ | refine Below.setCell ?_ (by simp; try omega) _ | refine Below.alloc ?_ (by simp; try omega) _)
theorem above_impl (n1 d1 n2 d2 a b : Int) (ha : n1 * d2 = a) (hb : n2 * d1 = b) (w : World) (a1 : -4000000000000000000 ≤ a) (a2 : a ≤ 4000000000000000000) (b1 : -4000000000000000000 ≤ b) (b2 : b ≤ 4000000000000000000) :
    Calls Try.prog 171 #[.agg #[.int .i64 n1, .int .i64 d1], .agg #[.int .i64 n2, .int .i64 d2]] w fun e w' => e = .returned (.bool (decide (b < a))) ∧ Below w.heap.size w w' := by
  go_enter Try.func171, Try.ntmps171
  go_wp2_with fail
  go_ret
  refine ⟨rfl, ?_⟩
  repeat (first | exact Below.refl _ _ | refine Below.alloc ?_ (by simp; try omega) _)
end Go.Proofs.Ytdmnkmdlochogab
