/-
  Contracts of impl.squareOf, spec.l2Square, impl.SquareBetween, spec.SquareBetween over this translation. Conditions: stated at each theorem.
-/
import Derived.Test.YtjnimedbjmihaaaAre
namespace Go.Proofs.Ytjnimedbjmihaaa
open Go.RowKit

theorem mul_bd (d : Int) (h1 : -1000 ≤ d) (h2 : d ≤ 1000) : 0 ≤ d * d ∧ d * d ≤ 1000000 := by
  have h3 := Int.mul_nonneg (show 0 ≤ 1000 - d by omega) (show 0 ≤ 1000 + d by omega)
  rw [Int.sub_mul, Int.mul_add, Int.mul_add] at h3
  have e : d * 1000 = 1000 * d := Int.mul_comm _ _
  have h4 : 0 ≤ d * d := by
    rcases Int.le_total 0 d with h | h
    · exact Int.mul_nonneg h h
    · rw [← Int.neg_mul_neg]; exact Int.mul_nonneg (by omega) (by omega)
  omega
/-- The square of the distance of two spots. -/
def sqI (ax ay bx by_ : Int) : Int := (ax - bx) * (ax - bx) + (ay - by_) * (ay - by_)
theorem sqI_swap (ax ay bx by_ : Int) : (bx - ax) * (bx - ax) + (by_ - ay) * (by_ - ay) = sqI ax ay bx by_ := by
  unfold sqI
  rw [show bx - ax = -(ax - bx) by omega, show by_ - ay = -(ay - by_) by omega, Int.neg_mul_neg, Int.neg_mul_neg]
/-- A coordinate. -/
def Grid (n : Int) : Prop := 0 ≤ n ∧ n ≤ 1000
theorem sqI_bd {ax ay bx by_ : Int} (h1 : Grid ax) (h2 : Grid ay) (h3 : Grid bx) (h4 : Grid by_) : 0 ≤ sqI ax ay bx by_ ∧ sqI ax ay bx by_ ≤ 2000000 := by
  unfold Grid at h1 h2 h3 h4
  have e1 := mul_bd (ax - bx) (by omega) (by omega)
  have e2 := mul_bd (ay - by_) (by omega) (by omega)
  unfold sqI
  omega
theorem sub_i64 {a b : Int} (h1 : 0 ≤ a ∧ a ≤ 1000) (h2 : 0 ≤ b ∧ b ≤ 1000) : IntKind.i64.wrap (a - b) = a - b := IntWalk.i64_in _ (by omega)
set_option maxHeartbeats 800000 in
theorem sq_impl (ax ay bx by_ : Int) (h1 : Grid ax) (h2 : Grid ay) (h3 : Grid bx) (h4 : Grid by_) (w : World) :
    Calls Try.prog 56 #[.agg #[.int .i64 ax, .int .i64 ay], .agg #[.int .i64 bx, .int .i64 by_]] w fun e w' => e = .returned (.int .i64 (sqI ax ay bx by_)) ∧ Below w.heap.size w w' := by
  unfold Grid at h1 h2 h3 h4
  have e1 := mul_bd (bx - ax) (by omega) (by omega)
  have e2 := mul_bd (by_ - ay) (by omega) (by omega)
  have HS := Lib.hid (sqI_swap ax ay bx by_)
  obtain ⟨d, hd⟩ : ∃ d, d = bx - ax := ⟨_, rfl⟩
  obtain ⟨d', hd'⟩ : ∃ d, d = by_ - ay := ⟨_, rfl⟩
  rw [← hd, ← hd'] at HS
  rw [← hd] at e1
  rw [← hd'] at e2
  have hw1 : IntKind.i64.wrap (bx - ax) = d := by rw [hd]; exact sub_i64 h3 h1
  have hw2 : IntKind.i64.wrap (by_ - ay) = d' := by rw [hd']; exact sub_i64 h4 h2
  clear hd hd' h1 h2 h3 h4
  go_enter Try.func56, Try.ntmps56
  go_wp2_with fail
  go_quiet (fail)
  clear hw1 hw2
  go_wp2_with fail
  go_ret
  refine ⟨ret_int HS.out, ?_⟩
  repeat (first | exact Below.refl _ _ | refine bdrewN ?_ _ | refine Below.alloc ?_ (by simp; try omega) _)
set_option maxHeartbeats 800000 in
theorem sq_spec (ax ay bx by_ : Int) (h1 : Grid ax) (h2 : Grid ay) (h3 : Grid bx) (h4 : Grid by_) (w : World) :
    Calls Try.prog 59 #[.agg #[.int .i64 ax, .int .i64 ay], .agg #[.int .i64 bx, .int .i64 by_]] w fun e w' => e = .returned (.int .i64 (sqI ax ay bx by_)) ∧ Below w.heap.size w w' := by
  unfold Grid at h1 h2 h3 h4
  obtain ⟨h11, h12⟩ := h1
  obtain ⟨h21, h22⟩ := h2
  obtain ⟨h31, h32⟩ := h3
  obtain ⟨h41, h42⟩ := h4
  obtain ⟨e1, e2⟩ := mul_bd (ax - bx) (by omega) (by omega)
  obtain ⟨e3, e4⟩ := mul_bd (ay - by_) (by omega) (by omega)
  go_enter Try.func59, Try.ntmps59
  go_wp2
  go_ret
  refine ⟨rfl, ?_⟩
  repeat (first | exact Below.refl _ _ | refine bdrewN ?_ _ | refine Below.alloc ?_ (by simp; try omega) _)

/-! ### SquareBetween -/
def sqK (ax ay bx by_ : Int) : Bool := spotB ax ay && spotB bx by_
def sqN (ax ay bx by_ : Int) : Int := if sqK ax ay bx by_ = true then sqI ax ay bx by_ else 0
theorem ret_ib {k : IntKind} {a b : Int} {x y : Bool} (h : a = b) (h' : x = y) : Ending.returned (.tuple #[.int k a, .bool x]) = .returned (.tuple #[.int k b, .bool y]) := by rw [h, h']
theorem sqb_no {ax ay bx by_ : Int} (h : sqK ax ay bx by_ = false) : Ending.returned (.tuple #[.int .i64 0, .bool false]) = .returned (.tuple #[.int .i64 (sqN ax ay bx by_), .bool (sqK ax ay bx by_)]) :=
  ret_ib (by unfold sqN; rw [h]; rfl) h.symm
theorem sqb_yes {ax ay bx by_ : Int} (h : sqK ax ay bx by_ = true) : Ending.returned (.tuple #[.int .i64 (sqI ax ay bx by_), .bool true]) = .returned (.tuple #[.int .i64 (sqN ax ay bx by_), .bool (sqK ax ay bx by_)]) :=
  ret_ib (by unfold sqN; rw [if_pos h]) h.symm
/-- What SquareBetween hands back. -/
def SqbPost (ax ay bx by_ : Int) (w : World) (e : Ending) (w' : World) : Prop :=
  e = .returned (.tuple #[.int .i64 (sqN ax ay bx by_), .bool (sqK ax ay bx by_)]) ∧ Below w.heap.size w w'
set_option maxHeartbeats 800000 in
theorem sqb_spec (ax ay bx by_ : Int) (w : World) :
    Calls Try.prog 33 #[.agg #[.int .i64 ax, .int .i64 ay], .agg #[.int .i64 bx, .int .i64 by_]] w (SqbPost ax ay bx by_ w) := by
  rcases h1 : spotB ax ay with _ | _
  · have H1 := Lib.hid h1
    have HR := Lib.hid (sqb_no (ax := ax) (ay := ay) (bx := bx) (by_ := by_) (by unfold sqK; rw [h1]; rfl))
    clear h1
    go_enter Try.func33, Try.ntmps33
    go_wp2_with fail
    refine (l2Spot_v ax ay _ H1.out _).mono ?_
    rintro e w1 ⟨rfl, hb⟩
    have HB := Lib.hid (box2 hb)
    clear hb
    go_wp2_with fail
    go_ret2
    exact ⟨HR.out, HB.out.1⟩
  rcases h2 : spotB bx by_ with _ | _
  · have H1 := Lib.hid h1
    have H2 := Lib.hid h2
    have HR := Lib.hid (sqb_no (ax := ax) (ay := ay) (bx := bx) (by_ := by_) (by unfold sqK; rw [h1, h2]; rfl))
    clear h1 h2
    go_enter Try.func33, Try.ntmps33
    go_wp2_with fail
    refine (l2Spot_v ax ay _ H1.out _).mono ?_
    rintro e w1 ⟨rfl, hb⟩
    have HB := Lib.hid (box2 hb)
    clear hb
    have c0 := HB.out.2.2.at_ 0 _ rfl
    have c1 := HB.out.2.2.at_ 1 _ rfl
    go_wp2_with fail
    refine (l2Spot_v bx by_ _ H2.out _).mono ?_
    rintro e w2 ⟨rfl, hb⟩
    have HB2 := Lib.hid (bthen HB.out.1 hb HB.out.1.size)
    clear hb c0 c1
    go_wp2_with fail
    go_ret2
    exact ⟨HR.out, HB2.out⟩
  · have H1 := Lib.hid h1
    have H2 := Lib.hid h2
    have HR := Lib.hid (sqb_yes (ax := ax) (ay := ay) (bx := bx) (by_ := by_) (by unfold sqK; rw [h1, h2]; rfl))
    clear h1 h2
    go_enter Try.func33, Try.ntmps33
    go_wp2_with fail
    refine (l2Spot_v ax ay _ H1.out _).mono ?_
    rintro e w1 ⟨rfl, hb⟩
    have HB := Lib.hid (box2 hb)
    clear hb
    have c0 := HB.out.2.2.at_ 0 _ rfl
    have c1 := HB.out.2.2.at_ 1 _ rfl
    go_wp2_with fail
    refine (l2Spot_v bx by_ _ H2.out _).mono ?_
    rintro e w2 ⟨rfl, hb⟩
    have HB2 := Lib.hid (bthen HB.out.1 hb HB.out.1.size)
    have HA := HB.out.2.1.next hb
    have HC := HB.out.2.2.next hb
    clear hb c0 c1
    have c0 := HA.at_ 0 _ rfl
    have c1 := HA.at_ 1 _ rfl
    have c2 := HC.at_ 0 _ rfl
    have c3 := HC.at_ 1 _ rfl
    clear HA HC
    go_wp2_with fail
    refine (sq_spec ax ay bx by_ (spotB_yes H1.out).1 (spotB_yes H1.out).2 (spotB_yes H2.out).1 (spotB_yes H2.out).2 _).mono ?_
    rintro e w3 ⟨rfl, hb⟩
    have HB3 := Lib.hid (bthen HB2.out hb HB2.out.size)
    clear hb c0 c1 c2 c3
    go_wp2_with fail
    go_ret2
    exact ⟨HR.out, HB3.out⟩
set_option maxHeartbeats 800000 in
theorem sqb_impl (ax ay bx by_ : Int) (w : World) :
    Calls Try.prog 23 #[.agg #[.int .i64 ax, .int .i64 ay], .agg #[.int .i64 bx, .int .i64 by_]] w (SqbPost ax ay bx by_ w) := by
  rcases h1 : spotB ax ay with _ | _
  · have H1 := Lib.hid h1
    have HR := Lib.hid (sqb_no (ax := ax) (ay := ay) (bx := bx) (by_ := by_) (by unfold sqK; rw [h1]; rfl))
    clear h1
    go_enter Try.func23, Try.ntmps23
    go_wp2_with fail
    refine (isSpot_impl_v ax ay _ H1.out _).mono ?_
    rintro e w1 ⟨rfl, hb⟩
    have HB := Lib.hid (box2 hb)
    clear hb
    go_wp2_with fail
    go_ret2
    exact ⟨HR.out, HB.out.1⟩
  rcases h2 : spotB bx by_ with _ | _
  · have H1 := Lib.hid h1
    have H2 := Lib.hid h2
    have HR := Lib.hid (sqb_no (ax := ax) (ay := ay) (bx := bx) (by_ := by_) (by unfold sqK; rw [h1, h2]; rfl))
    clear h1 h2
    go_enter Try.func23, Try.ntmps23
    go_wp2_with fail
    refine (isSpot_impl_v ax ay _ H1.out _).mono ?_
    rintro e w1 ⟨rfl, hb⟩
    have HB := Lib.hid (box2 hb)
    clear hb
    have c0 := HB.out.2.2.at_ 0 _ rfl
    have c1 := HB.out.2.2.at_ 1 _ rfl
    go_wp2_with fail
    refine (isSpot_impl_v bx by_ _ H2.out _).mono ?_
    rintro e w2 ⟨rfl, hb⟩
    have HB2 := Lib.hid (bthen HB.out.1 hb HB.out.1.size)
    clear hb c0 c1
    go_wp2_with fail
    go_ret2
    exact ⟨HR.out, HB2.out⟩
  · have H1 := Lib.hid h1
    have H2 := Lib.hid h2
    have HR := Lib.hid (sqb_yes (ax := ax) (ay := ay) (bx := bx) (by_ := by_) (by unfold sqK; rw [h1, h2]; rfl))
    clear h1 h2
    go_enter Try.func23, Try.ntmps23
    go_wp2_with fail
    refine (isSpot_impl_v ax ay _ H1.out _).mono ?_
    rintro e w1 ⟨rfl, hb⟩
    have HB := Lib.hid (box2 hb)
    clear hb
    have c0 := HB.out.2.2.at_ 0 _ rfl
    have c1 := HB.out.2.2.at_ 1 _ rfl
    go_wp2_with fail
    refine (isSpot_impl_v bx by_ _ H2.out _).mono ?_
    rintro e w2 ⟨rfl, hb⟩
    have HB2 := Lib.hid (bthen HB.out.1 hb HB.out.1.size)
    have HA := HB.out.2.1.next hb
    have HC := HB.out.2.2.next hb
    clear hb c0 c1
    have c0 := HA.at_ 0 _ rfl
    have c1 := HA.at_ 1 _ rfl
    have c2 := HC.at_ 0 _ rfl
    have c3 := HC.at_ 1 _ rfl
    clear HA HC
    go_wp2_with fail
    refine (sq_impl ax ay bx by_ (spotB_yes H1.out).1 (spotB_yes H1.out).2 (spotB_yes H2.out).1 (spotB_yes H2.out).2 _).mono ?_
    rintro e w3 ⟨rfl, hb⟩
    have HB3 := Lib.hid (bthen HB2.out hb HB2.out.size)
    clear hb c0 c1 c2 c3
    go_wp2_with fail
    go_ret2
    exact ⟨HR.out, HB3.out⟩
end Go.Proofs.Ytjnimedbjmihaaa
