/-
  Contracts of impl.AreSpots, spec.AreSpots over this translation. Conditions: stated at each theorem.
-/
import Derived.Test.YtjnimedbjmihaaaRow
namespace Go.Proofs.Ytjnimedbjmihaaa
open Go.RowKit

def spotP (p : Int × Int) : Bool := spotB p.1 p.2
/-- Are these spots? -/
def spotsB (l : List (Int × Int)) : Bool := decide (l.length ≤ 12) && l.all spotP
theorem all_snoc {α : Type} (f : α → Bool) {l : List α} {k : Nat} {p : α} (h : l[k]? = some p) : (l.take (k + 1)).all f = ((l.take k).all f && f p) := by
  obtain ⟨hk, rfl⟩ := List.getElem?_eq_some_iff.1 h
  rw [List.take_succ_eq_append_getElem hk, List.all_append]
  simp
theorem all_bad {α : Type} (f : α → Bool) {l : List α} {k : Nat} {p : α} (h : l[k]? = some p) (hf : f p = false) : l.all f = false := by
  rw [List.all_eq_false]
  exact ⟨p, List.mem_of_getElem? h, by simp [hf]⟩
theorem spotsB_long {l : List (Int × Int)} (h : ¬ l.length ≤ 12) : spotsB l = false := by
  unfold spotsB
  rw [decide_eq_false h]; rfl
theorem spotsB_bad {l : List (Int × Int)} (h : l.all spotP = false) : spotsB l = false := by
  unfold spotsB
  rw [h, Bool.and_false]
theorem spotsB_good {l : List (Int × Int)} (h : l.all spotP = true) (hl : l.length ≤ 12) : spotsB l = true := by
  unfold spotsB
  rw [h, decide_eq_true hl]; rfl
theorem spotsB_all {l : List (Int × Int)} (h : spotsB l = true) : l.length ≤ 12 ∧ l.all spotP = true := by
  unfold spotsB at h
  rw [Bool.and_eq_true] at h
  exact ⟨of_decide_eq_true h.1, h.2⟩
theorem spotsB_at {l : List (Int × Int)} (h : spotsB l = true) {k : Nat} {x y : Int} (hk : l[k]? = some (x, y)) : (0 ≤ x ∧ x ≤ 1000) ∧ (0 ≤ y ∧ y ≤ 1000) :=
  spotB_yes ((List.all_eq_true.1 (spotsB_all h).2) _ (List.mem_of_getElem? hk))
theorem isSpot_impl_v (x y : Int) (v : Bool) (h : spotB x y = v) (w : World) :
    Calls Try.prog 21 #[.agg #[.int .i64 x, .int .i64 y]] w fun e w' => e = .returned (.bool v) ∧ Below w.heap.size w w' := h ▸ isSpot_impl x y w
theorem l2Spot_v (x y : Int) (v : Bool) (h : spotB x y = v) (w : World) :
    Calls Try.prog 58 #[.agg #[.int .i64 x, .int .i64 y]] w fun e w' => e = .returned (.bool v) ∧ Below w.heap.size w w' := h ▸ l2Spot_any x y w
set_option maxHeartbeats 800000 in
theorem are_impl (A : Option Addr) (n c : Nat) (l : List (Int × Int)) (w : World) (hs : Spots w w.heap.size A n l) (hm : n ≤ maxLen) :
    Calls Try.prog 19 #[.slice A n c] w fun e w' => e = .returned (.bool (spotsB l)) ∧ Below w.heap.size w w' := by
  have HL := Lib.hid hs.1
  unfold maxLen at hm
  by_cases h12 : (12 : Int) < n
  · have HR := Lib.hid (spotsB_long (l := l) (by have := HL.out; omega))
    go_enter Try.func19, Try.ntmps19
    go_wp2
    go_ret
    exact ⟨ret_bool HR.out.symm, Below.refl _ _⟩
  go_enter Try.func19, Try.ntmps19
  go_wp2
  go_loopw [10] (fun i wr => ∃ k : Nat, k ≤ n ∧ i = .int .i64 k ∧ Hid ((l.take k).all spotP = true) ∧ Hid (Below w.heap.size w wr)) (fun i _ => n - (intOf i).toNat)
  case atStart => exact ⟨0, Nat.zero_le _, rfl, by simp [Hid], Lib.hid (Below.refl _ _)⟩
  case round =>
    obtain ⟨k, hk, rfl, hA, hB⟩ := hrel
    by_cases hlt : k < n
    · obtain ⟨b, o, x, y, rfl, hbl, hlk, hc0, hc1⟩ := (hs.on hB.out (Nat.le_refl _)).2 k hlt
      have HK := Lib.hid hlk
      clear hlk
      rcases hv : spotB x y with _ | _
      · have HV := Lib.hid hv
        have HR := Lib.hid (spotsB_bad (all_bad spotP HK.out hv))
        clear hv
        go_wp2_with fail
        refine (isSpot_impl_v x y _ HV.out _).mono ?_
        rintro e w1 ⟨rfl, hb⟩
        have HB := Lib.hid (bthen (hB.out.alloc hB.out.size _) hb (by have := hB.out.size; simp; omega))
        clear hb
        go_wp2_with fail
        go_ret
        exact ⟨ret_bool HR.out.symm, HB.out⟩
      · have HV := Lib.hid hv
        have HR : Hid ((l.take (k + 1)).all spotP = true) := by
          unfold Hid
          rw [all_snoc spotP HK.out, hA.out, show spotP (x, y) = true from hv]; rfl
        clear hv
        go_wp2_with fail
        refine (isSpot_impl_v x y _ HV.out _).mono ?_
        rintro e w1 ⟨rfl, hb⟩
        have HB := Lib.hid (bthen (hB.out.alloc hB.out.size _) hb (by have := hB.out.size; simp; omega))
        clear hb
        go_wp2_with fail
        go_roundw
        case rel => exact ⟨k + 1, by omega, by go_num, HR, HB⟩
        case measure => simp [intOf]; omega
    · have HR : Hid (spotsB l = true) := by
        have h1 := hA.out
        have h2 := HL.out
        rw [List.take_of_length_le (by omega)] at h1
        exact spotsB_good h1 (by omega)
      go_wp2
      go_ret
      exact ⟨ret_bool HR.out.symm, hB.out⟩
set_option maxHeartbeats 800000 in
theorem l2Spots_any (A : Option Addr) (n c : Nat) (l : List (Int × Int)) (w : World) (hs : Spots w w.heap.size A n l) (hm : n ≤ maxLen) :
    Calls Try.prog 57 #[.slice A n c] w fun e w' => e = .returned (.bool (spotsB l)) ∧ Below w.heap.size w w' := by
  have HL := Lib.hid hs.1
  unfold maxLen at hm
  go_enter Try.func57, Try.ntmps57
  go_wp2
  go_loopw [3] (fun i wr => ∃ k : Nat, k ≤ n ∧ i = .int .i64 k ∧ Hid ((l.take k).all spotP = true) ∧ Hid (Below w.heap.size w wr)) (fun i _ => n - (intOf i).toNat)
  case atStart => exact ⟨0, Nat.zero_le _, rfl, by simp [Hid], Lib.hid (Below.refl _ _)⟩
  case round =>
    obtain ⟨k, hk, rfl, hA, hB⟩ := hrel
    by_cases hlt : k < n
    · obtain ⟨b, o, x, y, rfl, hbl, hlk, hc0, hc1⟩ := (hs.on hB.out (Nat.le_refl _)).2 k hlt
      have HK := Lib.hid hlk
      clear hlk
      rcases hv : spotB x y with _ | _
      · have HV := Lib.hid hv
        have HR := Lib.hid (spotsB_bad (all_bad spotP HK.out hv))
        clear hv
        go_wp2_with fail
        refine (l2Spot_v x y _ HV.out _).mono ?_
        rintro e w1 ⟨rfl, hb⟩
        have HB := Lib.hid (bthen hB.out hb hB.out.size)
        clear hb
        go_wp2_with fail
        go_ret
        exact ⟨ret_bool HR.out.symm, HB.out⟩
      · have HV := Lib.hid hv
        have HR : Hid ((l.take (k + 1)).all spotP = true) := by
          unfold Hid
          rw [all_snoc spotP HK.out, hA.out, show spotP (x, y) = true from hv]; rfl
        clear hv
        go_wp2_with fail
        refine (l2Spot_v x y _ HV.out _).mono ?_
        rintro e w1 ⟨rfl, hb⟩
        have HB := Lib.hid (bthen hB.out hb hB.out.size)
        clear hb
        go_wp2_with fail
        go_roundw
        case rel => exact ⟨k + 1, by omega, by go_num, HR, HB⟩
        case measure => simp [intOf]; omega
    · have h1 := hA.out
      rw [List.take_of_length_le (by have := HL.out; omega)] at h1
      have H1 := Lib.hid h1
      clear h1
      by_cases h12 : (n : Int) ≤ 12
      · have HR : Hid (spotsB l = true) := spotsB_good H1.out (by have := HL.out; omega)
        go_wp2
        go_ret
        exact ⟨ret_bool HR.out.symm, hB.out⟩
      · have HR : Hid (spotsB l = false) := spotsB_long (by have := HL.out; omega)
        go_wp2
        go_ret
        exact ⟨ret_bool HR.out.symm, hB.out⟩
theorem are_spec (A : Option Addr) (n c : Nat) (l : List (Int × Int)) (w : World) (hs : Spots w w.heap.size A n l) (hm : n ≤ maxLen) :
    Calls Try.prog 20 #[.slice A n c] w fun e w' => e = .returned (.bool (spotsB l)) ∧ Below w.heap.size w w' := by
  have H := Lib.hid (l2Spots_any A n c l w hs hm)
  clear hs
  go_enter Try.func20, Try.ntmps20
  go_wp2_with fail
  refine H.out.mono ?_
  rintro e w1 ⟨rfl, hb⟩
  have HB := Lib.hid hb
  clear hb
  go_wp2_with fail
  go_ret
  exact ⟨rfl, HB.out⟩
end Go.Proofs.Ytjnimedbjmihaaa
