/-
  Contracts of laws.markStringS and laws.heldStringS over this translation. Conditions: stated at each theorem.
-/
import Derived.Test.YtcnpbhbhklmifaaSplitC
import Derived.Deep.RegionHeld3
namespace Go.Proofs.Ytcnpbhbhklmifaa
open Go.RowKit Go.Sort Go.Shelf

theorem own_below {W W' : World} {B e size n : Nat} {v : Value} {xs : List Value} (h : W.ownsRow B e size v n xs) (hb : Below W.heap.size W W') : W'.ownsRow B e size v n xs :=
  h.kept (row := none) ⟨hb.os, hb.tape, hb.output, hb.size, fun k hk _ => hb.block k hk⟩ (Classical.em _)
theorem mark_num (k : Nat) (n : Int) (hn : n = (k : Int) + 1) (h1 : k < 100000) (w : World) :
    Calls Try.prog 35 #[.int .i64 n] w fun e w' => e = .returned (.string (markT (k + 1))) ∧ Below w.heap.size w w' := by
  have := mark_any (k + 1) w (by omega) (by omega)
  subst hn
  exact this
/-- The row when k texts are overwritten. -/
def markK (xs : List ByteArray) (k : Nat) : List Value := (List.range k).map (fun t => Value.string (markT (t + 1))) ++ (xs.drop k).map Value.string
theorem markK_zero (xs : List ByteArray) : markK xs 0 = xs.map Value.string := by simp [markK]
theorem markK_set (xs : List ByteArray) (k : Nat) (hk : k < xs.length) : (markK xs k).set k (.string (markT (k + 1))) = markK xs (k + 1) := by
  unfold markK
  rw [List.set_append_right _ _ (by simp), List.drop_eq_getElem_cons hk, List.range_succ, List.length_map, List.length_range, Nat.sub_self, List.map_cons, List.set_cons_zero]
  simp only [List.map_append, List.map_cons, List.map_nil, List.append_assoc, List.cons_append, List.nil_append]
theorem markK_at (xs : List ByteArray) (k : Nat) (hk : k < xs.length) : (markK xs k)[k]? = some (.string xs[k]) := by
  unfold markK
  rw [List.getElem?_append_right (by simp), List.drop_eq_getElem_cons hk]
  simp
theorem markK_got (xs : List ByteArray) (n k : Nat) (hk : k < n) : (markK xs n)[k]? = some (.string (markT (k + 1))) := by
  unfold markK
  rw [List.getElem?_append_left (by simp; omega)]
  simp [hk]
/-- What markStringS hands back. -/
def MarkPost (g cap B : Nat) (xs : List ByteArray) (w : World) (e : Ending) (w' : World) : Prop :=
  e = .returned (.int .i64 ((xs.length : Int) + 1)) ∧ w'.ownsRow B 9 1 (.slice (some ⟨g, 0, none⟩) xs.length cap) xs.length (markK xs xs.length) ∧ Below B w w'
set_option maxHeartbeats 800000 in
theorem mark_row (g cap B : Nat) (xs : List ByteArray) (w : World) (hn : xs.length ≤ 4001) (hB0 : B ≤ w.heap.size)
    (h : w.ownsRow B 9 1 (.slice (some ⟨g, 0, none⟩) xs.length cap) xs.length (xs.map Value.string)) :
    Calls Try.prog 19 #[.slice (some ⟨g, 0, none⟩) xs.length cap, .int .i64 1] w (MarkPost g cap B xs w) := by
  have hg : B ≤ g := (h.lt g rfl).1
  have HO := Lib.hid h
  clear h
  go_enter Try.func19, Try.ntmps19
  go_wp2
  go_loopw [1, 5] (fun l i wr => ∃ k : Nat, k ≤ xs.length ∧ l = .int .i64 ((k : Int) + 1) ∧ i = .int .i64 k ∧ Hid (wr.ownsRow B 9 1 (.slice (some ⟨g, 0, none⟩) xs.length cap) xs.length (markK xs k)) ∧ Hid (Below B w wr)) (fun _ i _ => xs.length - (intOf i).toNat)
  case atStart => exact ⟨0, Nat.zero_le _, rfl, rfl, by rw [markK_zero]; exact HO, Lib.hid (Below.refl _ _)⟩
  case round =>
    obtain ⟨k, hk, rfl, rfl, hown, hB⟩ := hrel
    by_cases hlt : k < xs.length
    · have HS := Lib.hid (markK_set xs k hlt)
      have HA := Lib.hid (markK_at xs k hlt)
      go_wp2_with (go_at_call 35; refine (mark_num k _ (by first | rfl | omega) (by omega) _).mono ?_; rintro e w1 ⟨rfl, hb⟩; have HO1 := Lib.hid (own_below hown.out hb); have ht : w1.cell? ⟨g, k, none⟩ = some (.string xs[k]) := (by rw [HO1.out.cellAt k (by omega)]; exact HA.out); have hf := HO1.out.frozenAt k; have HO2 := Lib.hid (HO1.out.stored k (.string (markT (k + 1)))); have HB := Lib.hid ((hB.out.trans (hb.mono (by have := hB.out.size; omega))).setCell (p := ⟨g, k, none⟩) hg (.string (markT (k + 1)))); clear hb HO1)
      go_roundw
      case rel => exact ⟨k + 1, by omega, by go_num, by go_num, by unfold Hid; rw [← HS.out]; exact HO2.out.1, HB⟩
      case measure => simp [intOf]; omega
    · obtain rfl : k = xs.length := by omega
      go_wp2
      go_ret
      exact ⟨by go_num, hown.out, hB.out⟩
/-- The cells of the row hold their marks. -/
def Marked (g n : Nat) (w : World) : Prop := ∀ k, k < n → w.cell? ⟨g, k, none⟩ = some (.string (markT (k + 1)))
theorem marked_of {g cap B : Nat} {xs : List ByteArray} {w : World} (h : w.ownsRow B 9 1 (.slice (some ⟨g, 0, none⟩) xs.length cap) xs.length (markK xs xs.length)) : Marked g xs.length w := fun k hk => by
  rw [h.cellAt k (by omega)]; exact markK_got xs _ k hk
theorem Marked.below {g n B : Nat} {w w' : World} (h : Marked g n w) (hb : Below B w w') (hg : g < B) : Marked g n w' := fun k hk => (hb.cell (p := ⟨g, k, none⟩) hg).trans (h k hk)
theorem held_keep {g k : Nat} {v : Value} {w W W1 : World} (hb : Below W.heap.size W W1) (h : W.cell? ⟨g, k, none⟩ = some v ∧ Hid (Below w.heap.size w W)) (hg : g < w.heap.size) : W1.cell? ⟨g, k, none⟩ = some v ∧ Hid (Below w.heap.size w W1) :=
  ⟨(hb.cell (p := ⟨g, k, none⟩) (Nat.lt_of_lt_of_le hg h.2.out.size)).trans h.1, Lib.hid (h.2.out.trans (hb.mono h.2.out.size))⟩
set_option maxHeartbeats 800000 in
theorem held_row (g cap n : Nat) (w : World) (hn : n ≤ 4001) (hg : g < w.heap.size) (h : Marked g n w) :
    Calls Try.prog 20 #[.slice (some ⟨g, 0, none⟩) n cap, .int .i64 1] w fun e w' => e = .returned (.int .i64 ((n : Int) + 1)) ∧ Below w.heap.size w w' := by
  have HM := Lib.hid h
  clear h
  go_enter Try.func20, Try.ntmps20
  go_wp2
  go_loopw [1, 5] (fun l i wr => ∃ k : Nat, k ≤ n ∧ l = .int .i64 ((k : Int) + 1) ∧ i = .int .i64 k ∧ Hid (Below w.heap.size w wr)) (fun _ i _ => n - (intOf i).toNat)
  case atStart => exact ⟨0, Nat.zero_le _, rfl, rfl, Lib.hid (Below.refl _ _)⟩
  case round =>
    obtain ⟨k, hk, rfl, rfl, hB⟩ := hrel
    by_cases hlt : k < n
    · have hc := (HM.out.below hB.out hg) k hlt
      have hgr : g < wr.heap.size := by have := hB.out.size; omega
      go_wp2_with fail
      go_region_held3 (fun w' => w'.cell? ⟨g, k, none⟩ = some (.string (markT (k + 1))) ∧ Hid (Below w.heap.size w w')) (first | (exact ⟨hc, Lib.hid hB.out.drew⟩) | assumption | (exact held_keep hb (by assumption) hg)) ((go_at_call 35; refine (mark_num k _ (by first | rfl | omega) (by omega) _).mono ?_; rintro e w1 ⟨rfl, hb⟩; dsimp only))
      all_goals go_wp2
      all_goals go_roundw
      case rel => exact ⟨k + 1, by omega, by go_num, by go_num, by first | assumption | (exact (show _ ∧ _ by assumption).2)⟩
      case measure => simp [intOf]; omega
    · obtain rfl : k = n := by omega
      go_wp2
      go_ret
      exact ⟨by go_num, hB.out⟩
end Go.Proofs.Ytcnpbhbhklmifaa
