/-
  Rows of numbers that a call made: their cells, and contract of spec.l1Has over this translation. Conditions: stated at each theorem.
-/
import Derived.Test.YtjekmmekkfmplaaOg
import Derived.Test.YtjekmmekkfmplaaTc
namespace Go.Proofs.Ytjekmmekkfmplaa
open Go.RowKit
set_option linter.unusedVariables false

theorem ivs_len (l : List Int) : (ivs l).length = l.length := by simp [ivs]
theorem ivs_atJ {ls : List Int} {j : Nat} {v : Int} (h : ls[j]? = some v) : (ivs ls)[j]? = some (.int .i64 v) := by simp [ivs, h]
/-- A row of numbers that a call made: the number at k. -/
theorem own_cellJ {w : World} {B g n C k : Nat} {xs : List Int} {x : Int} (h : w.ownsRow B 3 1 (.slice (some ⟨g, 0, none⟩) n C) n (ivs xs)) (hk : k < n) (hx : xs[k]? = some x) : w.cell? ⟨g, k, none⟩ = some (.int .i64 x) := by
  rw [World.ownsRow.cellAt h k (by omega)]
  exact ivs_atJ hx
theorem own_capsJ {W : World} {B T z n : Nat} {v : Value} {xs : List Value} (h : W.ownsRow B T z v (n + 1) xs) : ∃ g cap, v = .slice (some ⟨g, 0, none⟩) (n + 1) cap ∧ n + 1 ≤ cap ∧ cap ≤ maxLen := by
  rcases h.2 with ⟨_, e⟩ | ⟨g, cap, cur, e, _, _, h1, h2, _⟩
  · omega
  · exact ⟨g, cap, e, h1, h2⟩
theorem col_lenJ {w wr : World} {v : Value} {n : Nat} {xs : List Int} (h : Col w 3 1 v n (ivs xs) wr) : n = xs.length := by
  have := h.1.1
  rw [ivs_len] at this
  omega
theorem one_newJ (w : World) (x : Value) (T : TypeId) : ∀ (j : Nat) (u : Value), [x][j]? = some u → (w.alloc (.cells #[x] T)).cell? ((⟨w.heap.size, 0, none⟩ : Addr).add j) = some u := by
  intro j u hu
  have h := Has.new w #[x] T
  rw [add_none, Nat.zero_add]
  exact h.at_ j u hu
/-! ### Is a number in a row -/
set_option maxRecDepth 20000 in
theorem hasJ_spec (B g n C : Nat) (xs : List Int) (x : Int) (r : Bool) (hr : decide (x ∈ xs) = r) (w : World) (ho : w.ownsRow B 3 1 (.slice (some ⟨g, 0, none⟩) n C) n (ivs xs)) (hn : xs.length = n) (h12 : n ≤ 30) :
    Calls Try.prog 64 #[.slice (some ⟨g, 0, none⟩) n C, .int .i64 x] w fun e w' => e = .returned (.bool r) ∧ Below w.heap.size w w' := by
  have HO := Lib.hid ho
  have HR := Lib.hid hr
  have HN := Lib.hid hn
  clear ho hr hn
  go_enter Try.func64, Try.ntmps64
  go_wp2_with fail
  go_loopw [5] (fun i wr => ∃ k : Nat, k ≤ n ∧ i = .int .i64 k ∧ Hid (∀ j, j < k → xs[j]? ≠ some x) ∧ Hid (Below w.heap.size w wr)) (fun i _ => n - (intOf i).toNat)
  case atStart => exact ⟨0, Nat.zero_le _, rfl, Lib.hid fun j h => absurd h (by omega), Lib.hid (Below.refl _ _)⟩
  case round =>
    obtain ⟨k, hk, rfl, hA, hB⟩ := hrel
    by_cases hlt : k < n
    · obtain ⟨y, hy⟩ : ∃ y, xs[k]? = some y := ⟨_, List.getElem?_eq_getElem (by rw [HN.out]; exact hlt)⟩
      have cy := own_cellJ (own_below HO.out hB.out) hlt hy
      by_cases he : y = x
      · have hd : (y == x) = true := beq_iff_eq.2 he
        have HP : Hid (r = true) := Lib.hid (by rw [← HR.out]; exact decide_eq_true (List.mem_of_getElem? (by rw [← he]; exact hy)))
        clear hy he
        go_wp2_with fail
        go_ret
        exact ⟨ret_bool HP.out.symm, hB.out⟩
      · have hd : (y == x) = false := beq_eq_false_iff_ne.2 he
        have HA2 : Hid (∀ j, j < k + 1 → xs[j]? ≠ some x) := Lib.hid fun j hj e => by
          rcases Nat.lt_or_ge j k with a | a
          · exact hA.out j a e
          · obtain rfl : j = k := by omega
            exact he (Option.some.inj (hy.symm.trans e))
        clear hy he
        go_wp2_with fail
        go_roundw
        case rel => exact ⟨k + 1, by omega, by go_num, HA2, hB⟩
        case measure => simp [intOf]; omega
    · obtain rfl : k = n := by omega
      have HP : Hid (r = false) := Lib.hid (by
        rw [← HR.out]
        refine decide_eq_false fun hm => ?_
        obtain ⟨j, hj⟩ := List.mem_iff_getElem?.1 hm
        exact hA.out j (by have := (List.getElem?_eq_some_iff.1 hj).1; have := HN.out; omega) hj)
      go_wp2_with fail
      go_ret
      exact ⟨ret_bool HP.out.symm, hB.out⟩
end Go.Proofs.Ytjekmmekkfmplaa
