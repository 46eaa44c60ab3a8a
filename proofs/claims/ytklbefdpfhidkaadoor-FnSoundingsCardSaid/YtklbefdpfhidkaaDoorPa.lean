/-
  Parts of a sounding's text: contracts of spec.l8Cut, strings.Cut, impl.ParseInt, spec.l1Read over this translation. Conditions: stated at each theorem.
-/
import Derived.Test.YtklbefdpfhidkaaDoorNp
import Derived.Test.YtklbefdpfhidkaaDoorPt
import Derived.Test.YtklbefdpfhidkaaDoorShelf3
namespace Go.Proofs.YtklbefdpfhidkaaDoor
open Go.RowKit Go.Sort

set_option maxHeartbeats 800000 in
theorem l8cut_c (s : ByteArray) (b : UInt8) (nb : Int) (hn : nb = (b.toNat : Int)) (w : World) (hs : s.size ≤ 1048576) :
    Calls Tryd.prog 38 #[.string s, .int .u8 nb] w fun e w' => e = .returned (.tuple #[.string (headB b s), .string (tailB b s)]) ∧ Below w.heap.size w w' := by
  go_enter Tryd.func38, Tryd.ntmps38
  go_wp2_with fail
  go_loop [6] (fun i => ∃ k : Nat, k ≤ s.size ∧ i = .int .i64 k ∧ Hid (∀ j, j < k → s.data.toList[j]? ≠ some b)) (fun i => s.size - (intOf i).toNat)
  case atStart => exact ⟨0, Nat.zero_le _, rfl, Lib.hid (fun j hj => absurd hj (by omega))⟩
  case round =>
    obtain ⟨k, hk, rfl, HNO⟩ := hrel
    by_cases hlt : k < s.size
    · have HA := Lib.hid (ba_at s k hlt)
      by_cases hbb : s[k] = b
      · have hd : ((s[k].toNat : Int) == nb) = true := by rw [hbb, hn]; simp
        have HH := Lib.hid (head_extract b s k (by rw [HA.out, hbb]) HNO.out)
        have HHB := Lib.hid hbb
        have e1 : IntKind.i64.wrap ((k : Int) + 1) = (k : Int) + 1 := IntWalk.i64_in _ (by omega)
        have e2 : ((k : Int) + 1).toNat = k + 1 := by omega
        clear hbb hn
        go_wp2_with fail
        go_quiet (fail)
        go_wp2_with fail
        go_ret2
        exact ⟨by rw [HH.out.1, HH.out.2]; rfl, below_drewN _ _⟩
      · have hd : ((s[k].toNat : Int) == nb) = false := by
          have : s[k].toNat ≠ b.toNat := fun e => hbb (UInt8.toNat_inj.1 e)
          exact beq_eq_false_iff_ne.2 (by omega)
        have HN2 := Lib.hid (show ∀ j, j < k + 1 → s.data.toList[j]? ≠ some b from fun j hj => by
          rcases Nat.lt_or_ge j k with h | h
          · exact HNO.out j h
          · obtain rfl : j = k := by omega
            rw [HA.out]; intro e; exact hbb (Option.some.inj e))
        clear hbb hn
        go_wp2_with fail
        go_round
        case rel => exact ⟨k + 1, by omega, by go_num, HN2⟩
        case measure => simp [intOf]; omega
    · obtain rfl : k = s.size := by omega
      have HH := Lib.hid (head_none b s (by
        intro hm
        obtain ⟨j, hj1, hj2⟩ := List.mem_iff_getElem.1 hm
        refine HNO.out j (by rw [← ba_len]; exact hj1) ?_
        rw [List.getElem?_eq_getElem hj1, hj2]))
      go_wp2_with fail
      go_ret2
      exact ⟨by rw [HH.out.1, HH.out.2]; rfl, Below.refl _ _⟩
/-- The variables of the library that the walk reads. -/
def Doors (w : World) : Prop := Pow10 w ∧ Errs w ∧ ∃ m, w.cell? ⟨0, 0, none⟩ = some (.int .i64 m)
theorem cell_low {w : World} {b : Nat} {v : Value} (h : w.cell? ⟨b, 0, none⟩ = some v) : b < w.heap.size := by
  rcases Nat.lt_or_ge b w.heap.size with h' | h'
  · exact h'
  · have e : w.heap[b]? = none := Array.getElem?_eq_none h'
    simp [World.cell?, e] at h
theorem Doors.below {w w' : World} (h : Doors w) (hb : Below w.heap.size w w') : Doors w' := by
  obtain ⟨h1, h2, m, h3⟩ := h
  exact ⟨tabIs_below h1 hb, h2.below hb, m, (hb.cell (p := ⟨0, 0, none⟩) (cell_low h3)).trans h3⟩
theorem cut_c (s m p q : ByteArray) (f : Bool) (h : cutB s m = (p, q, f)) (hs : s.size ≤ 1048576) (w : World) (hD : Doors w) :
    Calls Tryd.prog 26 #[.string s, .string m] w fun e w' => e = .returned (.tuple #[.string p, .string q, .bool f]) ∧ Below w.heap.size w w' := by
  obtain ⟨_, _, x, hx⟩ := hD
  refine (Tryd.strings_Cut s m x w (by omega) hx).mono fun e w' ⟨he, k, hk⟩ => ⟨?_, by rw [hk]; exact below_drewN _ _⟩
  unfold cutB at h
  injection h with h1 h2
  injection h2 with h2 h3
  rw [he, h1, h2, h3]
theorem parse_c (p : ByteArray) (n : Int) (r : Bool) (h : RD p n r) (hs : p.size ≤ 1048576) (w : World) (hD : Doors w) :
    Calls Tryd.prog 27 #[.string p] w fun e w' => e = .returned (.tuple #[.int .i64 n, .bool r]) ∧ Below w.heap.size w w' := by
  rcases h with ⟨rfl, h⟩ | ⟨rfl, rfl, h⟩
  · exact parse_impl_yes p n h hs w hD.1
  · exact parse_impl_no p h hs w hD.1 hD.2.1
theorem read_c (p : ByteArray) (n : Int) (r : Bool) (h : RD p n r) (hs : p.size ≤ 1048576) (w : World) :
    Calls Tryd.prog 39 #[.string p] w fun e w' => e = .returned (.tuple #[.int .i64 n, .bool r]) ∧ Below w.heap.size w w' := by
  rcases h with ⟨rfl, h⟩ | ⟨rfl, rfl, h⟩
  · exact (read_yes p n h w hs).mono fun e w' ⟨he, k, hk⟩ => ⟨he, by rw [hk]; exact below_drewN _ _⟩
  · exact (read_no p h w hs).mono fun e w' ⟨he, k, hk⟩ => ⟨he, by rw [hk]; exact below_drewN _ _⟩
/-- What stands while a text is read: the answer's cells, and the numbers read so far. -/
def PX (w : World) (cs : List Value) (wr : World) : Prop := Below w.heap.size w wr ∧ Has wr w.heap.size [.int .i64 0, .int .i64 0, .int .i64 0, .int .i64 0, .int .i64 0] ∧ Has wr (w.heap.size + 1) cs
theorem PX.next {w wr w1 : World} {cs : List Value} (h : PX w cs wr) (hb : Below wr.heap.size wr w1) : PX w cs w1 :=
  ⟨bthen h.1 hb h.1.size, h.2.1.next hb, h.2.2.next hb⟩
theorem PX.put {w wr : World} {cs : List Value} (h : PX w cs wr) (j : Nat) (u : Value) : PX w (cs.set j u) (wr.setCell ⟨w.heap.size + 1, j, none⟩ u) :=
  ⟨h.1.setCell (by simp) u, h.2.1.far (by simp) u, h.2.2.set j u⟩
def ansS (v : SD) (r : Bool) : SD := if r then v else zeroS
def PsPost (v : SD) (r : Bool) (w : World) (e : Ending) (w' : World) : Prop := (∀ u, u = ansS v r → e = .returned (.tuple #[.agg #[.int .i64 u.id, .int .i64 u.x, .int .i64 u.y, .int .i64 u.dep, .int .i64 u.dbt], .bool r])) ∧ Below w.heap.size w w'
theorem ps_no {v : SD} {r : Bool} {w w' : World} (h : r = false) (hb : Below w.heap.size w w') : PsPost v r w (.returned (.tuple #[.agg #[.int .i64 0, .int .i64 0, .int .i64 0, .int .i64 0, .int .i64 0], .bool false])) w' := by
  subst h
  exact ⟨fun u hu => by subst hu; rfl, hb⟩
theorem ps_yes {v : SD} {r : Bool} {w w' : World} (h : r = true) (hb : Below w.heap.size w w') : PsPost v r w (.returned (.tuple #[.agg #[.int .i64 v.id, .int .i64 v.x, .int .i64 v.y, .int .i64 v.dep, .int .i64 v.dbt], .bool true])) w' := by
  subst h
  exact ⟨fun u hu => by subst hu; rfl, hb⟩
end Go.Proofs.YtklbefdpfhidkaaDoor
