/-
  ParseSounding: contracts of impl.ParseSounding and spec.ParseSounding by what is told of the text. Conditions: stated at each theorem.
-/
import Derived.Test.YtklbefdpfhidkaaDoorPi
import Derived.Test.YtklbefdpfhidkaaDoorPs
namespace Go.Proofs.YtklbefdpfhidkaaDoor
open Go.RowKit Go.Sort

theorem ps_impl (s : ByteArray) (v : SD) (r : Bool) (h : Told s v r) (w : World) (hs : s.size ≤ 1048576) (hD : Doors w) :
    Calls Tryd.prog 9 #[.string s] w fun e w' => e = .returned (.tuple #[.agg #[.int .i64 v.id, .int .i64 v.x, .int .i64 v.y, .int .i64 v.dep, .int .i64 v.dbt], .bool r]) ∧ Below w.heap.size w w' := by
  rcases c0 : cutB s mAt with ⟨p0, q0, f0⟩
  rcases c1 : cutB q0 mCo with ⟨p1, q1, f1⟩
  rcases c2 : cutB q1 mCl with ⟨p2, q2, f2⟩
  rcases c3 : cutB q2 mPm with ⟨p3, q3, f3⟩
  obtain ⟨n0, r0, h0⟩ := rd_ex p0
  obtain ⟨n1, r1, h1⟩ := rd_ex p1
  obtain ⟨n2, r2, h2⟩ := rd_ex p2
  obtain ⟨n3, r3, h3⟩ := rd_ex p3
  obtain ⟨n4, r4, h4⟩ := rd_ex q3
  obtain ⟨rr, hrr⟩ : ∃ rr, sdB ⟨n0, n1, n2, n3, n4⟩ = rr := ⟨_, rfl⟩
  refine (parse_w s p0 q0 p1 q1 p2 q2 p3 q3 f0 f1 f2 f3 r0 r1 r2 r3 r4 rr n0 n1 n2 n3 n4 c0 c1 c2 c3 h0 h1 h2 h3 h4 hrr w hs hD).mono fun e w' ⟨he, hb⟩ => ⟨?_, hb⟩
  rcases h with ⟨rfl, hv, ht⟩ | ⟨rfl, rfl, hno⟩
  · obtain ⟨⟨rfl, rfl, rfl, rfl⟩, ⟨rfl, rfl, rfl, rfl, rfl⟩, hE⟩ := told_parts hv ht c0 c1 c2 c3 h0 h1 h2 h3 h4
    rw [hE] at hv
    obtain rfl : rr = true := by rw [← hrr, hv]
    exact he v (by rw [hE]; rfl)
  · have hR : (f0 && r0 && f1 && r1 && f2 && r2 && f3 && r3 && r4 && rr) = false := by
      rcases hR : (f0 && r0 && f1 && r1 && f2 && r2 && f3 && r3 && r4 && rr) with _ | _
      · rfl
      · simp only [Bool.and_eq_true] at hR
        obtain ⟨⟨⟨⟨⟨⟨⟨⟨⟨rfl, rfl⟩, rfl⟩, rfl⟩, rfl⟩, rfl⟩, rfl⟩, rfl⟩, rfl⟩, rfl⟩ := hR
        exact absurd (told_all (v := ⟨n0, n1, n2, n3, n4⟩) c0 c1 c2 c3 h0 h1 h2 h3 h4) (hno _ hrr)
    rw [hR] at he
    exact he zeroS rfl
theorem ps_spec (s : ByteArray) (v : SD) (r : Bool) (h : Told s v r) (w : World) :
    Calls Tryd.prog 13 #[.string s] w fun e w' => e = .returned (.tuple #[.agg #[.int .i64 v.id, .int .i64 v.x, .int .i64 v.y, .int .i64 v.dep, .int .i64 v.dbt], .bool r]) ∧ Below w.heap.size w w' := by
  by_cases hs : s.size ≤ 40
  · obtain ⟨n0, r0, h0⟩ := rd_ex (headB 64 s)
    obtain ⟨n1, r1, h1⟩ := rd_ex (headB 44 (tailB 64 s))
    obtain ⟨n2, r2, h2⟩ := rd_ex (headB 58 (tailB 44 (tailB 64 s)))
    obtain ⟨n3, r3, h3⟩ := rd_ex (headB 43 (tailB 58 (tailB 44 (tailB 64 s))))
    obtain ⟨n4, r4, h4⟩ := rd_ex (tailB 45 (tailB 43 (tailB 58 (tailB 44 (tailB 64 s)))))
    obtain ⟨rr, hrr⟩ : ∃ rr, sdB ⟨n0, n1, n2, n3, n4⟩ = rr := ⟨_, rfl⟩
    refine (parse_s s r0 r1 r2 r3 r4 rr n0 n1 n2 n3 n4 h0 h1 h2 h3 h4 hrr w hs).mono fun e w' ⟨he, hb⟩ => ⟨?_, hb⟩
    rcases h with ⟨rfl, hv, ht⟩ | ⟨rfl, rfl, hno⟩
    · have hE := told_heads hv ht h0 h1 h2 h3 h4
      rw [hE] at hv ht
      obtain rfl : rr = true := by rw [← hrr, hv]
      rw [decide_eq_true ht] at he
      exact he v (by rw [hE]; rfl)
    · have hR : (rr && decide (txtS ⟨n0, n1, n2, n3, n4⟩ = s)) = false := by
        rcases hR : (rr && decide (txtS ⟨n0, n1, n2, n3, n4⟩ = s)) with _ | _
        · rfl
        · simp only [Bool.and_eq_true, decide_eq_true_eq] at hR
          exact absurd hR.2 (hno _ (by rw [hrr, hR.1]))
      rw [hR] at he
      exact he zeroS rfl
  · rcases h with ⟨rfl, hv, ht⟩ | ⟨rfl, rfl, hno⟩
    · have := txtS_size v hv
      rw [ht] at this
      omega
    · exact (parse_long s zeroS w (by omega)).mono fun e w' ⟨he, hb⟩ => ⟨he zeroS rfl, hb⟩
end Go.Proofs.YtklbefdpfhidkaaDoor
