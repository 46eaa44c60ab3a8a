/-
  The first minute with a level: contracts of impl.FirstMinuteWith, spec.FirstMinuteWith over this translation. Conditions: stated at each theorem.
-/
import Derived.Test.YtdmnkmdlochogaaTm
namespace Go.Proofs.Ytdmnkmdlochogaa
open Go.RowKit

def lastT (l : List (Int × Int)) : Int := tmAt l (l.length - 1)
/-- How many minutes there are from a on to the last tide. -/
def fmC (l : List (Int × Int)) (a : Int) : Nat := (lastT l - a + 1).toNat
def fmI (l : List (Int × Int)) (v a : Int) : Nat := (List.range (fmC l a)).findIdx fun j : Nat => lvHas l v (a + (j : Int))
def fmG (l : List (Int × Int)) (v a : Int) : Bool := askK l a && inB v (-1000) 2000
def fmK (l : List (Int × Int)) (v a : Int) : Bool := fmG l v a && decide (fmI l v a < fmC l a)
def fmV (l : List (Int × Int)) (v a : Int) : Int := if fmK l v a then a + (fmI l v a : Int) else 0
def FmPost (l : List (Int × Int)) (v a : Int) (w : World) (e : Ending) (w' : World) : Prop :=
  e = .returned (.tuple #[.int .i64 (fmV l v a), .bool (fmK l v a)]) ∧ Below w.heap.size w w'
theorem fm_no {l : List (Int × Int)} {v a : Int} {w w' : World} (h : fmK l v a = false) (hb : Below w.heap.size w w') : FmPost l v a w (.returned (.tuple #[.int .i64 0, .bool false])) w' :=
  ⟨by unfold fmV; rw [h]; rfl, hb⟩
theorem fm_yes {l : List (Int × Int)} {v a x : Int} {w w' : World} (h : fmK l v a = true ∧ ∃ k : Nat, fmI l v a = k ∧ x = a + k) (hb : Below w.heap.size w w') : FmPost l v a w (.returned (.tuple #[.int .i64 x, .bool true])) w' := by
  obtain ⟨h1, k, h2, rfl⟩ := h
  exact ⟨by unfold fmV; rw [h1, if_pos rfl, h2], hb⟩
theorem fm_bad {l : List (Int × Int)} {v a : Int} (h : fmG l v a = false) : fmK l v a = false := by unfold fmK; rw [h]; rfl
theorem fm_found {l : List (Int × Int)} {v a : Int} {k : Nat} (hg : fmG l v a = true) (hk : a + (k : Int) ≤ lastT l) (h1 : ∀ j, j < k → lvHas l v (a + (j : Int)) = false) (h2 : lvHas l v (a + (k : Int)) = true) :
    fmK l v a = true ∧ ∃ m : Nat, fmI l v a = m ∧ a + (k : Int) = a + m := by
  have hlt : k < fmC l a := by unfold fmC; omega
  have e : fmI l v a = k := by
    unfold fmI
    rw [List.findIdx_eq (by simpa using hlt)]
    exact ⟨by simpa using h2, fun j hj => by simpa using h1 j hj⟩
  exact ⟨by unfold fmK; rw [hg, e, decide_eq_true hlt]; rfl, k, e, rfl⟩
theorem fm_none {l : List (Int × Int)} {v a : Int} {k : Nat} (hk : lastT l < a + (k : Int)) (h1 : ∀ j, j < k → lvHas l v (a + (j : Int)) = false) : fmK l v a = false := by
  have e : fmI l v a = fmC l a := by
    unfold fmI
    have h : (List.range (fmC l a)).findIdx (fun j : Nat => lvHas l v (a + (j : Int))) = (List.range (fmC l a)).length := by
      rw [List.findIdx_eq_length]
      intro x hx
      have hx' : x < fmC l a := by simpa using hx
      exact h1 x (by unfold fmC at hx'; omega)
    rw [h]; simp
  unfold fmK
  rw [e, decide_eq_false (by omega), Bool.and_false]
def FmInv (l : List (Int × Int)) (v a : Int) (w : World) (q : Value) (wr : World) : Prop :=
  ∃ k : Nat, (k = 0 ∨ a + k ≤ lastT l + 1) ∧ q = .int .i64 (a + k) ∧ Hid (∀ j, j < k → lvHas l v (a + (j : Int)) = false) ∧ Hid (Below w.heap.size w wr)
theorem last_at {w : World} {B n : Nat} {A : Option Addr} {l : List (Int × Int)} (h : Spots w B A n l) (ht : tideB l = true) :
    ∃ (b o m : Nat) (x : Int), A = some ⟨b, o, none⟩ ∧ n = m + 1 ∧ w.cell? ⟨b, o + m * 2, none⟩ = some (.int .i64 x) ∧ x = lastT l ∧ 0 ≤ x ∧ x ≤ 10000 := by
  have hp := (tide_parts ht).1
  have hn := h.1
  obtain ⟨m, rfl⟩ : ∃ m, n = m + 1 := ⟨n - 1, by omega⟩
  obtain ⟨b, o, x, y, hA, _, hl, h0, _⟩ := h.2 m (by omega)
  have e : x = lastT l := by unfold lastT; rw [hn, Nat.add_sub_cancel, tm_of hl]
  have hb := (tide_at ht (k := m) (by omega)).1
  rw [tm_of hl] at hb
  exact ⟨b, o, m, x, hA, rfl, h0, e, hb⟩
set_option maxRecDepth 20000 in
set_option maxHeartbeats 1600000 in
theorem first_spec (A : Option Addr) (n c : Nat) (l : List (Int × Int)) (v a : Int) (w : World) (hs : Spots w w.heap.size A n l) (hm : n ≤ maxLen) :
    Calls Try.prog 52 #[.slice A n c, .int .i64 v, .int .i64 a] w (FmPost l v a w) := by
  have HS := Lib.hid hs
  have hm' := hm
  unfold maxLen at hm'
  clear hs
  rcases ha : askK l a with _ | _
  · have HR : Hid (fmK l v a = false) := fm_bad (by unfold fmG; rw [ha]; rfl)
    have HA := Lib.hid ha
    clear ha
    go_enter Try.func52, Try.ntmps52
    go_wp2_with fail
    refine (asked_spec _ _ _ l a _ HA.out _ HS.out hm).mono ?_
    rintro e w1 ⟨rfl, hb⟩
    have HB0 := Lib.hid hb
    clear hb
    go_wp2_with fail
    go_ret2
    exact fm_no HR.out HB0.out
  have HA := Lib.hid ha
  rcases hi : inB v (-1000) 2000 with _ | _
  · have HR : Hid (fmK l v a = false) := fm_bad (by unfold fmG; rw [hi, Bool.and_false])
    have HI := Lib.hid hi
    clear ha hi
    go_enter Try.func52, Try.ntmps52
    go_wp2_with fail
    refine (asked_spec _ _ _ l a _ HA.out _ HS.out hm).mono ?_
    rintro e w1 ⟨rfl, hb⟩
    have HB0 := Lib.hid hb
    clear hb
    go_wp2_with fail
    refine (tlevel_spec _ _ HI.out _).mono ?_
    rintro e w' ⟨rfl, rfl⟩
    go_wp2_with fail
    go_ret2
    exact fm_no HR.out HB0.out
  have HI := Lib.hid hi
  have hv := inB_yes hi
  have HG : Hid (fmG l v a = true) := by unfold Hid fmG; rw [ha, hi]; rfl
  have HT := Lib.hid (ask_yes ha).1
  obtain ⟨ha0, ha1⟩ := (ask_yes ha).2
  clear ha hi
  go_enter Try.func52, Try.ntmps52
  go_wp2_with fail
  refine (asked_spec _ _ _ l a _ HA.out _ HS.out hm).mono ?_
  rintro e w1 ⟨rfl, hb⟩
  have HB0 := Lib.hid hb
  clear hb
  go_wp2_with fail
  refine (tlevel_spec _ _ HI.out _).mono ?_
  rintro e w' ⟨rfl, rfl⟩
  go_wp2_with fail
  go_loopw [8] (FmInv l v a w) (fun i _ => (lastT l + 1 - intOf i).toNat)
  case atStart => exact ⟨0, .inl rfl, congrArg (Value.int .i64) (by omega), Lib.hid fun j h => absurd h (by omega), HB0⟩
  case round =>
    obtain ⟨k, hk, rfl, hF, hB⟩ := hrel
    have HSr := Lib.hid (spots_at HS.out hB.out)
    obtain ⟨b, o, m, x, rfl, rfl, c0, hx, hx0, hx1⟩ := last_at HSr.out HT.out
    have HX := Lib.hid hx
    rw [← hx] at hk
    clear hx
    by_cases hlt : a + (k : Int) ≤ x
    · rcases hh : lvHas l v (a + k) with _ | _
      · have HH := Lib.hid hh
        have HN : Hid (∀ j, j < k + 1 → lvHas l v (a + (j : Int)) = false) := Lib.hid fun j hj => by
          rcases Nat.lt_or_ge j k with h | h
          · exact hF.out j h
          · obtain rfl : j = k := by omega
            exact hh
        clear hh
        go_wp2_with fail
        refine (has_spec _ _ _ l v _ _ HH.out _ HSr.out HT.out (by omega) (by omega) hv).mono ?_
        rintro e w1 ⟨rfl, hb⟩
        have HB := Lib.hid (bthen hB.out hb hB.out.size)
        clear hb
        go_wp2_with fail
        go_roundw
        case rel => exact ⟨k + 1, .inr (by rw [← HX.out]; omega), by go_num, HN, HB⟩
        case measure => rw [← HX.out]; simp [intOf]; omega
      · have HH := Lib.hid hh
        have HR := Lib.hid (fm_found HG.out (by rw [← HX.out]; exact hlt) hF.out hh)
        clear hh
        go_wp2_with fail
        refine (has_spec _ _ _ l v _ _ HH.out _ HSr.out HT.out (by omega) (by omega) hv).mono ?_
        rintro e w1 ⟨rfl, hb⟩
        have HB := Lib.hid (bthen hB.out hb hB.out.size)
        clear hb
        go_wp2_with fail
        go_ret2
        exact fm_yes HR.out HB.out
    · have HR := Lib.hid (fm_none (l := l) (v := v) (a := a) (k := k) (by rw [← HX.out]; omega) hF.out)
      go_wp2_with fail
      go_ret2
      exact fm_no HR.out hB.out
set_option maxRecDepth 20000 in
set_option maxHeartbeats 1600000 in
theorem first_impl (A : Option Addr) (n c : Nat) (l : List (Int × Int)) (v a : Int) (w : World) (hs : Spots w w.heap.size A n l) (hm : n ≤ maxLen) :
    Calls Try.prog 51 #[.slice A n c, .int .i64 v, .int .i64 a] w (FmPost l v a w) := by
  have HS := Lib.hid hs
  have hm' := hm
  unfold maxLen at hm'
  clear hs
  rcases ht : tideB l with _ | _
  · have HR : Hid (fmK l v a = false) := fm_bad (by unfold fmG askK; rw [ht]; rfl)
    have HT := Lib.hid ht
    clear ht
    go_enter Try.func51, Try.ntmps51
    go_wp2_with fail
    refine (isT_v _ _ _ l _ HT.out _ HS.out hm).mono ?_
    rintro e w1 ⟨rfl, hb⟩
    have HB0 := Lib.hid hb
    clear hb
    go_wp2_with fail
    go_ret2
    exact fm_no HR.out HB0.out
  have HT := Lib.hid ht
  rcases hi : inB v (-1000) 2000 with _ | _
  · have HR : Hid (fmK l v a = false) := fm_bad (by unfold fmG; rw [hi, Bool.and_false])
    have HI := Lib.hid hi
    clear ht hi
    go_enter Try.func51, Try.ntmps51
    go_wp2_with fail
    refine (isT_v _ _ _ l _ HT.out _ HS.out hm).mono ?_
    rintro e w1 ⟨rfl, hb⟩
    have HB0 := Lib.hid hb
    clear hb
    go_wp2_with fail
    refine (tlevel_impl _ _ HI.out _).mono ?_
    rintro e w' ⟨rfl, rfl⟩
    go_wp2_with fail
    go_ret2
    exact fm_no HR.out HB0.out
  have HI := Lib.hid hi
  have hv := inB_yes hi
  rcases hj : inB a 0 10000 with _ | _
  · have HR : Hid (fmK l v a = false) := fm_bad (by unfold fmG askK; rw [hj, Bool.and_false]; rfl)
    have HJ := Lib.hid hj
    clear ht hi hj
    go_enter Try.func51, Try.ntmps51
    go_wp2_with fail
    refine (isT_v _ _ _ l _ HT.out _ HS.out hm).mono ?_
    rintro e w1 ⟨rfl, hb⟩
    have HB0 := Lib.hid hb
    clear hb
    go_wp2_with fail
    refine (tlevel_impl _ _ HI.out _).mono ?_
    rintro e w' ⟨rfl, rfl⟩
    go_wp2_with fail
    refine (time_impl _ _ HJ.out _).mono ?_
    rintro e w' ⟨rfl, rfl⟩
    go_wp2_with fail
    go_ret2
    exact fm_no HR.out HB0.out
  have HJ := Lib.hid hj
  have HG : Hid (fmG l v a = true) := by unfold Hid fmG askK; rw [ht, hi, hj]; rfl
  obtain ⟨ha0, ha1⟩ := inB_yes hj
  clear ht hi hj
  go_enter Try.func51, Try.ntmps51
  go_wp2_with fail
  refine (isT_v _ _ _ l _ HT.out _ HS.out hm).mono ?_
  rintro e w1 ⟨rfl, hb⟩
  have HB0 := Lib.hid hb
  clear hb
  go_wp2_with fail
  refine (tlevel_impl _ _ HI.out _).mono ?_
  rintro e w' ⟨rfl, rfl⟩
  go_wp2_with fail
  refine (time_impl _ _ HJ.out _).mono ?_
  rintro e w' ⟨rfl, rfl⟩
  go_wp2_with fail
  go_loopw [8] (FmInv l v a w) (fun i _ => (lastT l + 1 - intOf i).toNat)
  case atStart => exact ⟨0, .inl rfl, congrArg (Value.int .i64) (by omega), Lib.hid fun j h => absurd h (by omega), HB0⟩
  case round =>
    obtain ⟨k, hk, rfl, hF, hB⟩ := hrel
    have HSr := Lib.hid (spots_at HS.out hB.out)
    obtain ⟨b, o, m, x, rfl, rfl, c0, hx, hx0, hx1⟩ := last_at HSr.out HT.out
    have HX := Lib.hid hx
    rw [← hx] at hk
    clear hx
    by_cases hlt : a + (k : Int) ≤ x
    · rcases hh : lvHas l v (a + k) with _ | _
      · have HH := Lib.hid hh
        have HN : Hid (∀ j, j < k + 1 → lvHas l v (a + (j : Int)) = false) := Lib.hid fun j hj => by
          rcases Nat.lt_or_ge j k with h | h
          · exact hF.out j h
          · obtain rfl : j = k := by omega
            exact hh
        clear hh
        go_wp2_with fail
        refine (upTo_impl _ _ _ l v _ _ HH.out _ HSr.out hm HT.out (by omega) (by omega) hv).mono ?_
        rintro e w1 ⟨rfl, hb⟩
        have HB := Lib.hid (bthen hB.out hb hB.out.size)
        clear hb
        go_wp2_with fail
        go_roundw
        case rel => exact ⟨k + 1, .inr (by rw [← HX.out]; omega), by go_num, HN, HB⟩
        case measure => rw [← HX.out]; simp [intOf]; omega
      · have HH := Lib.hid hh
        have HR := Lib.hid (fm_found HG.out (by rw [← HX.out]; exact hlt) hF.out hh)
        clear hh
        go_wp2_with fail
        refine (upTo_impl _ _ _ l v _ _ HH.out _ HSr.out hm HT.out (by omega) (by omega) hv).mono ?_
        rintro e w1 ⟨rfl, hb⟩
        have HB := Lib.hid (bthen hB.out hb hB.out.size)
        clear hb
        go_wp2_with fail
        go_ret2
        exact fm_yes HR.out HB.out
    · have HR := Lib.hid (fm_none (l := l) (v := v) (a := a) (k := k) (by rw [← HX.out]; omega) hF.out)
      go_wp2_with fail
      go_ret2
      exact fm_no HR.out hB.out
end Go.Proofs.Ytdmnkmdlochogaa
