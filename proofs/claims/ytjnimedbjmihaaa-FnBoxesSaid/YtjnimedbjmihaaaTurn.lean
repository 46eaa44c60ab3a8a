/-
  Contracts of cmp.Compare at int, spec.l2Cross, impl.TurnOf, spec.TurnOf over this translation. Conditions: stated at each theorem.
-/
import Derived.Test.YtjnimedbjmihaaaSq
namespace Go.Proofs.Ytjnimedbjmihaaa
open Go.RowKit

theorem nan_any (x : Int) (w : World) : Calls Try.prog 80 #[.int .i64 x] w fun e w' => e = .returned (.bool false) ∧ w = w' := by
  go_enter Try.func80, Try.ntmps80
  go_wp2
  go_ret
  exact ⟨by simp, rfl⟩
def sgn (n : Int) : Int := if 0 < n then 1 else if n < 0 then -1 else 0
theorem sgn_pos {n : Int} (h : 0 < n) : sgn n = 1 := by unfold sgn; rw [if_pos h]
theorem sgn_neg {n : Int} (h : n < 0) : sgn n = -1 := by unfold sgn; rw [if_neg (by omega), if_pos h]
theorem sgn_zero {n : Int} (h : n = 0) : sgn n = 0 := by subst h; rfl
theorem cmp_any (x y : Int) (w : World) : Calls Try.prog 70 #[.int .i64 x, .int .i64 y] w fun e w' => e = .returned (.int .i64 (sgn (x - y))) ∧ w = w' := by
  rcases Int.lt_trichotomy x y with h | h | h
  · have H := Lib.hid (sgn_neg (n := x - y) (by omega))
    go_enter Try.func70, Try.ntmps70
    go_wp2_with (go_at_call 80; refine (nan_any _ _).mono ?_; rintro e w' ⟨rfl, rfl⟩)
    go_ret
    exact ⟨ret_int H.out.symm, rfl⟩
  · have H := Lib.hid (sgn_zero (n := x - y) (by omega))
    have h1 : ¬ x < y := by omega
    have h2 : ¬ y < x := by omega
    clear h
    go_enter Try.func70, Try.ntmps70
    go_wp2_with (go_at_call 80; refine (nan_any _ _).mono ?_; rintro e w' ⟨rfl, rfl⟩)
    go_ret
    exact ⟨ret_int H.out.symm, rfl⟩
  · have H := Lib.hid (sgn_pos (n := x - y) (by omega))
    have h1 : ¬ x < y := by omega
    go_enter Try.func70, Try.ntmps70
    go_wp2_with (go_at_call 80; refine (nan_any _ _).mono ?_; rintro e w' ⟨rfl, rfl⟩)
    go_ret
    exact ⟨ret_int H.out.symm, rfl⟩
theorem mul_bd2 (d e : Int) (h1 : -1000 ≤ d ∧ d ≤ 1000) (h2 : -1000 ≤ e ∧ e ≤ 1000) : -1000000 ≤ d * e ∧ d * e ≤ 1000000 := by
  have h3 := Int.natAbs_mul d e
  have h4 := Nat.mul_le_mul (show d.natAbs ≤ 1000 by omega) (show e.natAbs ≤ 1000 by omega)
  omega
/-- Twice the area of a triangle, with its sign. -/
def crI (ax ay bx by_ cx cy : Int) : Int := (bx - ax) * (cy - ay) - (by_ - ay) * (cx - ax)
set_option maxHeartbeats 800000 in
theorem cross_any (ax ay bx by_ cx cy : Int) (h1 : Grid ax ∧ Grid ay) (h2 : Grid bx ∧ Grid by_) (h3 : Grid cx ∧ Grid cy) (w : World) :
    Calls Try.prog 71 #[.agg #[.int .i64 ax, .int .i64 ay], .agg #[.int .i64 bx, .int .i64 by_], .agg #[.int .i64 cx, .int .i64 cy]] w fun e w' => e = .returned (.int .i64 (crI ax ay bx by_ cx cy)) ∧ Below w.heap.size w w' := by
  unfold Grid at h1 h2 h3
  obtain ⟨⟨h11, h12⟩, h13, h14⟩ := h1
  obtain ⟨⟨h21, h22⟩, h23, h24⟩ := h2
  obtain ⟨⟨h31, h32⟩, h33, h34⟩ := h3
  obtain ⟨e1, e2⟩ := mul_bd2 (bx - ax) (cy - ay) (by omega) (by omega)
  obtain ⟨e3, e4⟩ := mul_bd2 (by_ - ay) (cx - ax) (by omega) (by omega)
  go_enter Try.func71, Try.ntmps71
  go_wp2
  go_ret
  refine ⟨rfl, ?_⟩
  repeat (first | exact Below.refl _ _ | refine bdrewN ?_ _ | refine Below.alloc ?_ (by simp; try omega) _)

/-! ### TurnOf -/
def turnK (ax ay bx by_ cx cy : Int) : Bool := spotB ax ay && spotB bx by_ && spotB cx cy
def turnN (ax ay bx by_ cx cy : Int) : Int := if turnK ax ay bx by_ cx cy = true then sgn (crI ax ay bx by_ cx cy) else 0
theorem turn_no {ax ay bx by_ cx cy : Int} (h : turnK ax ay bx by_ cx cy = false) : Ending.returned (.tuple #[.int .i64 0, .bool false]) = .returned (.tuple #[.int .i64 (turnN ax ay bx by_ cx cy), .bool (turnK ax ay bx by_ cx cy)]) :=
  ret_ib (by unfold turnN; rw [h]; rfl) h.symm
theorem turn_yes {ax ay bx by_ cx cy : Int} (h : turnK ax ay bx by_ cx cy = true) {n : Int} (hn : n = sgn (crI ax ay bx by_ cx cy)) : Ending.returned (.tuple #[.int .i64 n, .bool true]) = .returned (.tuple #[.int .i64 (turnN ax ay bx by_ cx cy), .bool (turnK ax ay bx by_ cx cy)]) :=
  ret_ib (by unfold turnN; rw [if_pos h, hn]) h.symm
/-- What TurnOf hands back. -/
def TurnPost (ax ay bx by_ cx cy : Int) (w : World) (e : Ending) (w' : World) : Prop :=
  e = .returned (.tuple #[.int .i64 (turnN ax ay bx by_ cx cy), .bool (turnK ax ay bx by_ cx cy)]) ∧ Below w.heap.size w w'
set_option maxHeartbeats 1600000 in
theorem turn_spec (ax ay bx by_ cx cy : Int) (w : World) :
    Calls Try.prog 40 #[.agg #[.int .i64 ax, .int .i64 ay], .agg #[.int .i64 bx, .int .i64 by_], .agg #[.int .i64 cx, .int .i64 cy]] w (TurnPost ax ay bx by_ cx cy w) := by
  rcases h1 : spotB ax ay with _ | _
  · have HR := Lib.hid (turn_no (ax := ax) (ay := ay) (bx := bx) (by_ := by_) (cx := cx) (cy := cy) (by unfold turnK; rw [h1]; rfl))
    have H1 := Lib.hid h1
    clear h1
    go_enter Try.func40, Try.ntmps40
    go_wp2_with fail
    refine (l2Spot_v ax ay _ H1.out _).mono ?_
    rintro e w1 ⟨rfl, hb⟩
    have HB1 := Lib.hid (box3 hb)
    clear hb
    go_wp2_with fail
    go_ret2
    exact ⟨HR.out, HB1.out.1⟩
  rcases h2 : spotB bx by_ with _ | _
  · have HR := Lib.hid (turn_no (ax := ax) (ay := ay) (bx := bx) (by_ := by_) (cx := cx) (cy := cy) (by unfold turnK; rw [h1, h2]; rfl))
    have H1 := Lib.hid h1
    have H2 := Lib.hid h2
    clear h1 h2
    go_enter Try.func40, Try.ntmps40
    go_wp2_with fail
    refine (l2Spot_v ax ay _ H1.out _).mono ?_
    rintro e w1 ⟨rfl, hb⟩
    have HB1 := Lib.hid (box3 hb)
    clear hb
    have c0 := HB1.out.2.2.1.at_ 0 _ rfl
    have c1 := HB1.out.2.2.1.at_ 1 _ rfl
    go_wp2_with fail
    refine (l2Spot_v bx by_ _ H2.out _).mono ?_
    rintro e w2 ⟨rfl, hb⟩
    have HB2 := Lib.hid (And.intro (bthen HB1.out.1 hb HB1.out.1.size) (And.intro (HB1.out.2.1.next hb) (And.intro (HB1.out.2.2.1.next hb) (HB1.out.2.2.2.next hb))))
    clear hb c0 c1
    go_wp2_with fail
    go_ret2
    exact ⟨HR.out, HB2.out.1⟩
  rcases h3 : spotB cx cy with _ | _
  · have HR := Lib.hid (turn_no (ax := ax) (ay := ay) (bx := bx) (by_ := by_) (cx := cx) (cy := cy) (by unfold turnK; rw [h1, h2, h3]; rfl))
    have H1 := Lib.hid h1
    have H2 := Lib.hid h2
    have H3 := Lib.hid h3
    clear h1 h2 h3
    go_enter Try.func40, Try.ntmps40
    go_wp2_with fail
    refine (l2Spot_v ax ay _ H1.out _).mono ?_
    rintro e w1 ⟨rfl, hb⟩
    have HB1 := Lib.hid (box3 hb)
    clear hb
    have c0 := HB1.out.2.2.1.at_ 0 _ rfl
    have c1 := HB1.out.2.2.1.at_ 1 _ rfl
    go_wp2_with fail
    refine (l2Spot_v bx by_ _ H2.out _).mono ?_
    rintro e w2 ⟨rfl, hb⟩
    have HB2 := Lib.hid (And.intro (bthen HB1.out.1 hb HB1.out.1.size) (And.intro (HB1.out.2.1.next hb) (And.intro (HB1.out.2.2.1.next hb) (HB1.out.2.2.2.next hb))))
    clear hb c0 c1
    have c0 := HB2.out.2.2.2.at_ 0 _ rfl
    have c1 := HB2.out.2.2.2.at_ 1 _ rfl
    go_wp2_with fail
    refine (l2Spot_v cx cy _ H3.out _).mono ?_
    rintro e w3 ⟨rfl, hb⟩
    have HB3 := Lib.hid (And.intro (bthen HB2.out.1 hb HB2.out.1.size) (And.intro (HB2.out.2.1.next hb) (And.intro (HB2.out.2.2.1.next hb) (HB2.out.2.2.2.next hb))))
    clear hb c0 c1
    go_wp2_with fail
    go_ret2
    exact ⟨HR.out, HB3.out.1⟩
  have HK := Lib.hid (show turnK ax ay bx by_ cx cy = true by unfold turnK; rw [h1, h2, h3]; rfl)
  have H1 := Lib.hid h1
  have H2 := Lib.hid h2
  have H3 := Lib.hid h3
  clear h1 h2 h3
  go_enter Try.func40, Try.ntmps40
  go_wp2_with fail
  refine (l2Spot_v ax ay _ H1.out _).mono ?_
  rintro e w1 ⟨rfl, hb⟩
  have HB1 := Lib.hid (box3 hb)
  clear hb
  have c0 := HB1.out.2.2.1.at_ 0 _ rfl
  have c1 := HB1.out.2.2.1.at_ 1 _ rfl
  go_wp2_with fail
  refine (l2Spot_v bx by_ _ H2.out _).mono ?_
  rintro e w2 ⟨rfl, hb⟩
  have HB2 := Lib.hid (And.intro (bthen HB1.out.1 hb HB1.out.1.size) (And.intro (HB1.out.2.1.next hb) (And.intro (HB1.out.2.2.1.next hb) (HB1.out.2.2.2.next hb))))
  clear hb c0 c1
  have c0 := HB2.out.2.2.2.at_ 0 _ rfl
  have c1 := HB2.out.2.2.2.at_ 1 _ rfl
  go_wp2_with fail
  refine (l2Spot_v cx cy _ H3.out _).mono ?_
  rintro e w3 ⟨rfl, hb⟩
  have HB3 := Lib.hid (And.intro (bthen HB2.out.1 hb HB2.out.1.size) (And.intro (HB2.out.2.1.next hb) (And.intro (HB2.out.2.2.1.next hb) (HB2.out.2.2.2.next hb))))
  clear hb c0 c1
  have c0 := HB3.out.2.1.at_ 0 _ rfl
  have c1 := HB3.out.2.1.at_ 1 _ rfl
  have c2 := HB3.out.2.2.1.at_ 0 _ rfl
  have c3 := HB3.out.2.2.1.at_ 1 _ rfl
  have c4 := HB3.out.2.2.2.at_ 0 _ rfl
  have c5 := HB3.out.2.2.2.at_ 1 _ rfl
  go_wp2_with fail
  refine (cross_any ax ay bx by_ cx cy (spotB_yes H1.out) (spotB_yes H2.out) (spotB_yes H3.out) _).mono ?_
  rintro e w4 ⟨rfl, hb⟩
  have HB4 := Lib.hid (bthen HB3.out.1 hb HB3.out.1.size)
  clear hb c0 c1 c2 c3 c4 c5
  rcases Int.lt_trichotomy (crI ax ay bx by_ cx cy) 0 with h | h | h
  · have HR := Lib.hid (turn_yes HK.out (sgn_neg h).symm)
    have h2 : ¬ 0 < crI ax ay bx by_ cx cy := by omega
    go_wp2_with fail
    go_ret2
    exact ⟨HR.out, HB4.out⟩
  · have HR := Lib.hid (turn_yes HK.out (sgn_zero h).symm)
    have h1 : ¬ 0 < crI ax ay bx by_ cx cy := by omega
    have h2 : ¬ crI ax ay bx by_ cx cy < 0 := by omega
    clear h
    go_wp2_with fail
    go_ret2
    exact ⟨HR.out, HB4.out⟩
  · have HR := Lib.hid (turn_yes HK.out (sgn_pos h).symm)
    go_wp2_with fail
    go_ret2
    exact ⟨HR.out, HB4.out⟩
set_option maxHeartbeats 1600000 in
theorem turn_impl (ax ay bx by_ cx cy : Int) (w : World) :
    Calls Try.prog 39 #[.agg #[.int .i64 ax, .int .i64 ay], .agg #[.int .i64 bx, .int .i64 by_], .agg #[.int .i64 cx, .int .i64 cy]] w (TurnPost ax ay bx by_ cx cy w) := by
  rcases h1 : spotB ax ay with _ | _
  · have HR := Lib.hid (turn_no (ax := ax) (ay := ay) (bx := bx) (by_ := by_) (cx := cx) (cy := cy) (by unfold turnK; rw [h1]; rfl))
    have H1 := Lib.hid h1
    clear h1
    go_enter Try.func39, Try.ntmps39
    go_wp2_with fail
    refine (isSpot_impl_v ax ay _ H1.out _).mono ?_
    rintro e w1 ⟨rfl, hb⟩
    have HB1 := Lib.hid (box3 hb)
    clear hb
    go_wp2_with fail
    go_ret2
    exact ⟨HR.out, HB1.out.1⟩
  rcases h2 : spotB bx by_ with _ | _
  · have HR := Lib.hid (turn_no (ax := ax) (ay := ay) (bx := bx) (by_ := by_) (cx := cx) (cy := cy) (by unfold turnK; rw [h1, h2]; rfl))
    have H1 := Lib.hid h1
    have H2 := Lib.hid h2
    clear h1 h2
    go_enter Try.func39, Try.ntmps39
    go_wp2_with fail
    refine (isSpot_impl_v ax ay _ H1.out _).mono ?_
    rintro e w1 ⟨rfl, hb⟩
    have HB1 := Lib.hid (box3 hb)
    clear hb
    have c0 := HB1.out.2.2.1.at_ 0 _ rfl
    have c1 := HB1.out.2.2.1.at_ 1 _ rfl
    go_wp2_with fail
    refine (isSpot_impl_v bx by_ _ H2.out _).mono ?_
    rintro e w2 ⟨rfl, hb⟩
    have HB2 := Lib.hid (And.intro (bthen HB1.out.1 hb HB1.out.1.size) (And.intro (HB1.out.2.1.next hb) (And.intro (HB1.out.2.2.1.next hb) (HB1.out.2.2.2.next hb))))
    clear hb c0 c1
    go_wp2_with fail
    go_ret2
    exact ⟨HR.out, HB2.out.1⟩
  rcases h3 : spotB cx cy with _ | _
  · have HR := Lib.hid (turn_no (ax := ax) (ay := ay) (bx := bx) (by_ := by_) (cx := cx) (cy := cy) (by unfold turnK; rw [h1, h2, h3]; rfl))
    have H1 := Lib.hid h1
    have H2 := Lib.hid h2
    have H3 := Lib.hid h3
    clear h1 h2 h3
    go_enter Try.func39, Try.ntmps39
    go_wp2_with fail
    refine (isSpot_impl_v ax ay _ H1.out _).mono ?_
    rintro e w1 ⟨rfl, hb⟩
    have HB1 := Lib.hid (box3 hb)
    clear hb
    have c0 := HB1.out.2.2.1.at_ 0 _ rfl
    have c1 := HB1.out.2.2.1.at_ 1 _ rfl
    go_wp2_with fail
    refine (isSpot_impl_v bx by_ _ H2.out _).mono ?_
    rintro e w2 ⟨rfl, hb⟩
    have HB2 := Lib.hid (And.intro (bthen HB1.out.1 hb HB1.out.1.size) (And.intro (HB1.out.2.1.next hb) (And.intro (HB1.out.2.2.1.next hb) (HB1.out.2.2.2.next hb))))
    clear hb c0 c1
    have c0 := HB2.out.2.2.2.at_ 0 _ rfl
    have c1 := HB2.out.2.2.2.at_ 1 _ rfl
    go_wp2_with fail
    refine (isSpot_impl_v cx cy _ H3.out _).mono ?_
    rintro e w3 ⟨rfl, hb⟩
    have HB3 := Lib.hid (And.intro (bthen HB2.out.1 hb HB2.out.1.size) (And.intro (HB2.out.2.1.next hb) (And.intro (HB2.out.2.2.1.next hb) (HB2.out.2.2.2.next hb))))
    clear hb c0 c1
    go_wp2_with fail
    go_ret2
    exact ⟨HR.out, HB3.out.1⟩
  have HK := Lib.hid (show turnK ax ay bx by_ cx cy = true by unfold turnK; rw [h1, h2, h3]; rfl)
  have H1 := Lib.hid h1
  have H2 := Lib.hid h2
  have H3 := Lib.hid h3
  clear h1 h2 h3
  obtain ⟨⟨h11, h12⟩, h13, h14⟩ := spotB_yes H1.out
  obtain ⟨⟨h21, h22⟩, h23, h24⟩ := spotB_yes H2.out
  obtain ⟨⟨h31, h32⟩, h33, h34⟩ := spotB_yes H3.out
  obtain ⟨e1, e2⟩ := mul_bd2 (bx - ax) (cy - ay) (by omega) (by omega)
  obtain ⟨e3, e4⟩ := mul_bd2 (by_ - ay) (cx - ax) (by omega) (by omega)
  go_enter Try.func39, Try.ntmps39
  go_wp2_with fail
  refine (isSpot_impl_v ax ay _ H1.out _).mono ?_
  rintro e w1 ⟨rfl, hb⟩
  have HB1 := Lib.hid (box3 hb)
  clear hb
  have c0 := HB1.out.2.2.1.at_ 0 _ rfl
  have c1 := HB1.out.2.2.1.at_ 1 _ rfl
  go_wp2_with fail
  refine (isSpot_impl_v bx by_ _ H2.out _).mono ?_
  rintro e w2 ⟨rfl, hb⟩
  have HB2 := Lib.hid (And.intro (bthen HB1.out.1 hb HB1.out.1.size) (And.intro (HB1.out.2.1.next hb) (And.intro (HB1.out.2.2.1.next hb) (HB1.out.2.2.2.next hb))))
  clear hb c0 c1
  have c0 := HB2.out.2.2.2.at_ 0 _ rfl
  have c1 := HB2.out.2.2.2.at_ 1 _ rfl
  go_wp2_with fail
  refine (isSpot_impl_v cx cy _ H3.out _).mono ?_
  rintro e w3 ⟨rfl, hb⟩
  have HB3 := Lib.hid (And.intro (bthen HB2.out.1 hb HB2.out.1.size) (And.intro (HB2.out.2.1.next hb) (And.intro (HB2.out.2.2.1.next hb) (HB2.out.2.2.2.next hb))))
  clear hb c0 c1
  have c0 := HB3.out.2.1.at_ 0 _ rfl
  have c1 := HB3.out.2.1.at_ 1 _ rfl
  have c2 := HB3.out.2.2.1.at_ 0 _ rfl
  have c3 := HB3.out.2.2.1.at_ 1 _ rfl
  have c4 := HB3.out.2.2.2.at_ 0 _ rfl
  have c5 := HB3.out.2.2.2.at_ 1 _ rfl
  go_wp2_with fail
  refine (cmp_any _ _ _).mono ?_
  rintro e w4 ⟨rfl, rfl⟩
  have HR := Lib.hid (turn_yes HK.out (n := sgn ((bx - ax) * (cy - ay) - (by_ - ay) * (cx - ax))) rfl)
  go_wp2_with fail
  go_ret2
  exact ⟨HR.out, HB3.out.1⟩
end Go.Proofs.Ytjnimedbjmihaaa
