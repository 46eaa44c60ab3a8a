/-
  Slices of texts: contracts of laws.szStringS, laws.toStringS, laws.eqStringS over this translation. Conditions: stated at each theorem.
-/
import Derived.Test.YtcnpbhbhklmifaaBase
import Derived.Laws.MakeOwn
namespace Go.Proofs.Ytcnpbhbhklmifaa
open Go.RowKit Go.Sort

/-- The cells from place o of block b on hold the texts xs. -/
def Cells (w : World) (b o : Nat) (xs : List ByteArray) : Prop := ∀ j x, xs[j]? = some x → w.cell? ⟨b, o + j, none⟩ = some (.string x)
theorem Cells.at_ {w : World} {b o : Nat} {xs : List ByteArray} (h : Cells w b o xs) (k : Nat) (hk : k < xs.length) : w.cell? ⟨b, o + k, none⟩ = some (.string xs[k]) :=
  h k _ (List.getElem?_eq_getElem hk)
theorem Cells.below {w w' : World} {b o B : Nat} {xs : List ByteArray} (h : Cells w b o xs) (hb : Below B w w') (hB : b < B) : Cells w' b o xs :=
  fun j x hx => (hb.cell (p := ⟨b, o + j, none⟩) hB).trans (h j x hx)
/-- How many bytes the texts have together. -/
def tot (xs : List ByteArray) : Nat := (xs.map (·.size)).sum
theorem tot_take_succ (xs : List ByteArray) (k : Nat) (hk : k < xs.length) : tot (xs.take (k + 1)) = tot (xs.take k) + xs[k].size := by
  rw [List.take_succ_eq_append_getElem hk]
  simp only [tot, List.map_append, List.sum_append, List.map_cons, List.map_nil, List.sum_cons, List.sum_nil, Nat.add_zero]
theorem tot_take_le (xs : List ByteArray) (k : Nat) : tot (xs.take k) ≤ tot xs := by
  have h : tot xs = tot (xs.take k) + tot (xs.drop k) := by
    have e : xs = xs.take k ++ xs.drop k := (List.take_append_drop k xs).symm
    conv => lhs; rw [e]
    simp only [tot, List.map_append, List.sum_append]
  omega
theorem le_tot (xs : List ByteArray) (k : Nat) (hk : k < xs.length) : xs[k].size ≤ tot xs := by
  have h1 := tot_take_succ xs k hk
  have h2 := tot_take_le xs (k + 1)
  omega

/-! ### laws.szStringS -/
set_option maxHeartbeats 800000 in
theorem sz_neg (b o c : Nat) (xs : List ByteArray) (w : World) (hc : Cells w b o xs) (hw : ∀ x ∈ xs, x.size ≤ maxLen) (hn : xs.length ≤ maxLen) (h : 1048576 < xs.length + tot xs) :
    Calls Try.prog 21 #[.slice (some ⟨b, o, none⟩) xs.length c, .int .i64 1048576] w fun e w' => e = .returned (.int .i64 (-1)) ∧ w = w' := by
  unfold maxLen at hn
  by_cases h0 : 1048576 < xs.length
  · go_enter Try.func21, Try.ntmps21
    go_wp2
    go_ret
    exact ⟨rfl, rfl⟩
  go_enter Try.func21, Try.ntmps21
  go_wp2
  go_loop [1, 5] (fun l i => ∃ (k : Nat) (r : Int), k ≤ xs.length ∧ i = .int .i64 k ∧ l = .int .i64 r ∧ 0 ≤ r ∧ r ≤ 1048576 ∧ Hid (r = 1048576 - xs.length - tot (xs.take k))) (fun _ i => xs.length - (intOf i).toNat)
  case atStart => exact ⟨0, _, Nat.zero_le _, rfl, rfl, by omega, by omega, by simp [Hid, tot]⟩
  case round =>
    obtain ⟨k, r, hk, rfl, rfl, hr0, hr1, hr⟩ := hrel
    by_cases hlt : k < xs.length
    · have hcell := hc.at_ k hlt
      have hs : xs[k].size ≤ maxLen := hw _ (List.getElem_mem hlt)
      unfold maxLen at hs
      have HT := Lib.hid (tot_take_succ xs k hlt)
      by_cases hneg : r - xs[k].size < 0
      · go_wp2
        go_ret
        exact ⟨rfl, rfl⟩
      · have hnn : 0 ≤ r - (xs[k].size : Int) := by omega
        have HR : Hid (r - (xs[k].size : Int) = 1048576 - xs.length - tot (xs.take (k + 1))) := by
          have h1 := hr.out; have h2 := HT.out; unfold Hid; omega
        go_wp2
        go_round
        case rel => exact ⟨k + 1, _, by omega, by go_num, rfl, by omega, by omega, HR⟩
        case measure => simp [intOf]; omega
    · exfalso
      have h1 := hr.out
      rw [List.take_of_length_le (by omega)] at h1
      omega
set_option maxHeartbeats 800000 in
theorem sz_pos (b o c : Nat) (xs : List ByteArray) (w : World) (hc : Cells w b o xs) (h : xs.length + tot xs ≤ 1048576) :
    Calls Try.prog 21 #[.slice (some ⟨b, o, none⟩) xs.length c, .int .i64 1048576] w fun e w' => (∃ r : Nat, e = .returned (.int .i64 r)) ∧ w = w' := by
  go_enter Try.func21, Try.ntmps21
  go_wp2
  go_loop [1, 5] (fun l i => ∃ (k r : Nat), k ≤ xs.length ∧ i = .int .i64 k ∧ l = .int .i64 r ∧ r ≤ 1048576 ∧ Hid (r + xs.length + tot (xs.take k) = 1048576)) (fun _ i => xs.length - (intOf i).toNat)
  case atStart => exact ⟨0, 1048576 - xs.length, Nat.zero_le _, rfl, by rw [Int.ofNat_sub (by omega)]; rfl, by omega, by simp [Hid, tot]; omega⟩
  case round =>
    obtain ⟨k, r, hk, rfl, rfl, hr1, hr⟩ := hrel
    by_cases hlt : k < xs.length
    · have hcell := hc.at_ k hlt
      have hs : xs[k].size ≤ r := by
        have h1 := hr.out
        have h2 := tot_take_succ xs k hlt
        have h3 := tot_take_le xs (k + 1)
        omega
      have HR : Hid ((r - xs[k].size) + xs.length + tot (xs.take (k + 1)) = 1048576) := by
        have h1 := hr.out; have h2 := tot_take_succ xs k hlt; unfold Hid; omega
      go_wp2
      go_round
      case rel => exact ⟨k + 1, r - xs[k].size, by omega, by go_num, by rw [Int.ofNat_sub hs], by omega, HR⟩
      case measure => simp [intOf]; omega
    · go_wp2
      go_ret
      exact ⟨⟨r, rfl⟩, rfl⟩

/-! ### laws.toStringS -/
/-- The new row when k texts have come. -/
def fillK (xs : List ByteArray) (k : Nat) : List Value := (xs.take k).map Value.string ++ List.replicate (xs.length - k) (.string ⟨#[]⟩)
theorem fillK_set (xs : List ByteArray) (k : Nat) (hk : k < xs.length) : (fillK xs k).set k (.string xs[k]) = fillK xs (k + 1) := by
  unfold fillK
  have hl : ((xs.take k).map Value.string).length = k := by simp; omega
  have e : xs.length - k = (xs.length - (k + 1)) + 1 := by omega
  rw [e, List.replicate_succ, List.set_append_right _ _ (by omega), hl, Nat.sub_self, List.set_cons_zero, List.take_succ_eq_append_getElem hk]
  simp only [List.map_append, List.map_cons, List.map_nil, List.append_assoc, List.cons_append, List.nil_append]
theorem fillK_at (xs : List ByteArray) (k : Nat) (hk : k < xs.length) : (fillK xs k)[k]? = some (.string ⟨#[]⟩) := by
  unfold fillK
  have hl : ((xs.take k).map Value.string).length = k := by simp; omega
  rw [List.getElem?_append_right (by omega), hl, Nat.sub_self, List.getElem?_replicate, if_pos (by omega)]
theorem fillK_end (xs : List ByteArray) : fillK xs xs.length = xs.map Value.string := by simp [fillK]
/-- What laws.toStringS hands back: a new row of the same texts. -/
def CopyPost (xs : List ByteArray) (w : World) (e : Ending) (w' : World) : Prop :=
  ∃ g, e = .returned (.slice (some ⟨g, 0, none⟩) xs.length xs.length) ∧ w.heap.size ≤ g ∧ g < w'.heap.size ∧ Cells w' g 0 xs ∧ (∀ j, w'.frozen? ⟨g, j, none⟩ = false) ∧ Below w.heap.size w w'
theorem copy_of {xs : List ByteArray} {w w' : World} {g : Nat} (h : w'.ownsRow w.heap.size 9 1 (.slice (some ⟨g, 0, none⟩) xs.length xs.length) xs.length (xs.map Value.string)) (hb : Below w.heap.size w w') :
    CopyPost xs w (.returned (.slice (some ⟨g, 0, none⟩) xs.length xs.length)) w' := by
  refine ⟨g, rfl, (h.lt g rfl).1, (h.lt g rfl).2, fun j x hx => ?_, fun j => h.frozenAt j, hb⟩
  have hj : j < xs.length := (List.getElem?_eq_some_iff.1 hx).1
  have := h.cellAt j (by omega)
  rw [Nat.zero_add, this]
  simp [hx]
set_option maxHeartbeats 800000 in
theorem copy_any (b o c : Nat) (xs : List ByteArray) (w : World) (hc : Cells w b o xs) (hb : b < w.heap.size) (hn : xs.length ≤ 1048576) :
    Calls Try.prog 22 #[.slice (some ⟨b, o, none⟩) xs.length c] w (CopyPost xs w) := by
  obtain ⟨i0, hi, hz0, hz1, hz2⟩ := info_parts info9
  go_enter Try.func22, Try.ntmps22
  go_wp2_with (at_make; refine wpList_make_full _ rfl _ _ 26 rfl w.heap.size 9 i0 (.string ⟨#[]⟩) 1 Try.underlying26 hi hz0 hz1 .i64 .i64 _ _ xs.length rfl rfl rfl rfl (by rw [hz2]; omega) (by unfold maxLen; omega) (Nat.le_refl _) ?_; intro w1 hown hgrow)
  have hg0 := Lib.hid hgrow
  clear hgrow
  have hB0 := Lib.hid ((Below.refl w.heap.size w).grown hg0.out (Nat.le_refl _) (fun k e => by cases e))
  have hw0 : Hid (w1.ownsRow w.heap.size 9 1 (.slice (some ⟨w.heap.size, 0, none⟩) xs.length xs.length) xs.length (fillK xs 0)) := by
    have e : (madeCells (Value.string ⟨#[]⟩).cells (xs.length * 1)).toList = fillK xs 0 := by
      rw [Nat.mul_one]
      show (madeCells #[Value.string ⟨#[]⟩] xs.length).toList = _
      rw [toList_madeCells_one]
      simp [fillK]
    rw [← e]; exact hown
  clear hown
  go_loopw [4] (fun i wr => ∃ k : Nat, k ≤ xs.length ∧ i = .int .i64 k ∧ wr.ownsRow w.heap.size 9 1 (.slice (some ⟨w.heap.size, 0, none⟩) xs.length xs.length) xs.length (fillK xs k) ∧ Below w.heap.size w wr) (fun i _ => xs.length - (intOf i).toNat)
  case atStart => exact ⟨0, Nat.zero_le _, rfl, hw0.out, hB0.out⟩
  case round =>
    obtain ⟨k, hk, rfl, hown, hB⟩ := hrel
    by_cases hlt : k < xs.length
    · have hcell := (hc.below hB hb).at_ k hlt
      have ht : wr.cell? ⟨w.heap.size, k, none⟩ = some (.string ⟨#[]⟩) := by
        rw [hown.cellAt k (by omega)]; exact fillK_at xs k hlt
      have hf := hown.frozenAt k
      have HO := Lib.hid (hown.stored k (.string xs[k]))
      have HB := Lib.hid (hB.setCell (p := ⟨w.heap.size, k, none⟩) (Nat.le_refl _) (.string xs[k]))
      have HS := Lib.hid (fillK_set xs k hlt)
      clear hown
      go_wp2
      go_roundw
      case rel => exact ⟨k + 1, by omega, by go_num, by rw [← HS.out]; exact HO.out.1, HB.out⟩
      case measure => simp [intOf]; omega
    · obtain rfl : k = xs.length := by omega
      have HC : Hid (CopyPost xs w (.returned (.slice (some ⟨w.heap.size, 0, none⟩) xs.length xs.length)) wr) := copy_of (by rw [← fillK_end]; exact hown) hB
      go_wp2
      go_ret
      exact HC

/-! ### laws.eqStringS -/
set_option maxHeartbeats 800000 in
theorem eq_true (b1 o1 c1 b2 o2 c2 : Nat) (xs : List ByteArray) (w : World) (h1 : Cells w b1 o1 xs) (h2 : Cells w b2 o2 xs) (hn : xs.length ≤ maxLen) :
    Calls Try.prog 18 #[.slice (some ⟨b1, o1, none⟩) xs.length c1, .slice (some ⟨b2, o2, none⟩) xs.length c2] w fun e w' => e = .returned (.bool true) ∧ ∃ k, w' = w.drewN k := by
  unfold maxLen at hn
  go_enter Try.func18, Try.ntmps18
  go_wp2
  go_loopw [5] (fun i wr => ∃ k d : Nat, k ≤ xs.length ∧ i = .int .i64 k ∧ wr = w.drewN d) (fun i _ => xs.length - (intOf i).toNat)
  case atStart => exact ⟨0, 0, Nat.zero_le _, rfl, by rw [World.drewN_zero]⟩
  case round =>
    obtain ⟨k, d, hk, rfl, rfl⟩ := hrel
    by_cases hlt : k < xs.length
    · have hc1 := h1.at_ k hlt
      have hc2 := h2.at_ k hlt
      go_wp2_with fail
      go_quiet (fail)
      go_wp2
      go_roundw
      case rel => exact ⟨k + 1, _, by omega, by go_num, rfl⟩
      case measure => simp [intOf]; omega
    · go_wp2
      go_ret
      exact ⟨rfl, _, rfl⟩
end Go.Proofs.Ytcnpbhbhklmifaa
