/-
  Plain facts for laws.FnHighWaters and laws.FnTideLevels, and contracts of laws.vBig, laws.vInts over this translation. Conditions: stated at each theorem.
-/
import Derived.Test.YtdmnkmdlochogaaTi
import Derived.Test.YtdmnkmdlochogaaTn
import Derived.Test.YtdmnkmdlochogaaTg
import Derived.Test.YtdmnkmdlochogaaDd
import Derived.Test.YtdmnkmdlochogaaOg
import Derived.ProofKit
import Derived.OpenShut
import Derived.Deep.Slices
namespace Go.Proofs.Ytdmnkmdlochogaa
open Go.RowKit

theorem vBig_any (A : Option Addr) (n c : Nat) (v : Bool) (h : decide ((65536 : Int) < n) = v) (w : World) : Calls Try.prog 31 #[.slice A n c] w fun e w' => e = .returned (.bool v) ∧ w = w' := by
  subst h
  by_cases hc : (65536 : Int) < n
  · have H := Lib.hid (decide_eq_true hc)
    go_enter Try.func31, Try.ntmps31
    go_wp2_with fail
    go_ret
    exact ⟨ret_bool H.out.symm, rfl⟩
  · have H := Lib.hid (decide_eq_false hc)
    go_enter Try.func31, Try.ntmps31
    go_wp2_with fail
    go_ret
    exact ⟨ret_bool H.out.symm, rfl⟩
theorem levelAt_v (A : Option Addr) (n c : Nat) (l : List (Int × Int)) (t n0 d0 : Int) (k : Bool) (hn : loN l t = n0) (hd : loD l t = d0) (hk : loK l t = k) (w : World) (hs : Spots w w.heap.size A n l) (hm : n ≤ maxLen) :
    Calls Try.prog 33 #[.slice A n c, .int .i64 t] w fun e w' => e = .returned (.tuple #[.int .i64 n0, .int .i64 d0, .bool k]) ∧ Below w.heap.size w w' := by
  subst hn hd hk
  exact levelAt_impl A n c l t w hs hm
theorem abv_trans {l : List (Int × Int)} {t u v : Int} (ht : 0 < lvD l t) (hu : 0 < lvD l u) (hv : 0 < lvD l v) (h1 : abvB l t u = false) (h2 : abvB l u v = false) : abvB l t v = false := by
  unfold abvB at *
  have h1' := of_decide_eq_false h1
  have h2' := of_decide_eq_false h2
  refine decide_eq_false fun h3 => ?_
  have pt : (0 : Int) < lvD l t := Int.natCast_pos.2 ht
  have pu : (0 : Int) < lvD l u := Int.natCast_pos.2 hu
  have pv : (0 : Int) < lvD l v := Int.natCast_pos.2 hv
  -- N_t D_u ≤ N_u D_t, N_u D_v ≤ N_v D_u, N_v D_t < N_t D_v
  have a1 := Int.mul_le_mul_of_nonneg_right (show lvN l t * lvD l u ≤ lvN l u * lvD l t by omega) (Int.le_of_lt pv)
  have a2 := Int.mul_le_mul_of_nonneg_right (show lvN l u * lvD l v ≤ lvN l v * lvD l u by omega) (Int.le_of_lt pt)
  have a3 := Int.mul_lt_mul_of_pos_right h3 pu
  have e1 : lvN l t * lvD l u * lvD l v = lvN l t * lvD l v * lvD l u := by simp only [Int.mul_comm, Int.mul_left_comm]
  have e2 : lvN l u * lvD l t * lvD l v = lvN l u * lvD l v * lvD l t := by simp only [Int.mul_comm, Int.mul_left_comm]
  have e3 : lvN l v * lvD l u * lvD l t = lvN l v * lvD l t * lvD l u := by simp only [Int.mul_comm, Int.mul_left_comm]
  omega
theorem abv_self (l : List (Int × Int)) (t : Int) : abvB l t t = false := decide_eq_false (Int.lt_irrefl _)
theorem abv_asym {l : List (Int × Int)} {t u : Int} (h : abvB l t u = true) : abvB l u t = false := by
  unfold abvB at *
  have := of_decide_eq_true h
  exact decide_eq_false (by omega)
theorem best_max {l : List (Int × Int)} {a : Int} : ∀ k : Nat, (∀ j : Nat, j < k → 0 < lvD l (a + (j : Int))) → ∀ j : Nat, j < k → abvB l (a + (j : Int)) (a + (bestK l a k : Int)) = false := by
  intro k
  induction k with
  | zero => intro _ j hj; omega
  | succ k ih =>
    intro hd j hj
    rcases Nat.eq_zero_or_pos k with rfl | hk
    · obtain rfl : j = 0 := by omega
      rw [best_one]; exact abv_self _ _
    · have hi := ih (fun j hj => hd j (by omega))
      have hb := best_lt l a k hk
      rcases h : abvB l (a + (k : Int)) (a + (bestK l a k : Int)) with _ | _
      · rw [best_no hk h]
        rcases Nat.lt_or_ge j k with h1 | h1
        · exact hi j h1
        · obtain rfl : j = k := by omega
          exact h
      · rw [best_yes hk h]
        rcases Nat.lt_or_ge j k with h1 | h1
        · exact abv_trans (hd j (by omega)) (hd _ (by omega)) (hd k (by omega)) (hi j h1) (abv_asym h)
        · obtain rfl : j = k := by omega
          exact abv_self _ _
/-- What a highest level is. -/
theorem hl_facts {l : List (Int × Int)} {a b : Int} (h : hlK l a b = true) : (0 ≤ a ∧ a ≤ b ∧ b ≤ 10000) ∧ ∃ i : Nat, a + (i : Int) ≤ b ∧ hlN l a b = rlN l (a + (i : Int)) ∧ hlD l a b = (rlD l (a + (i : Int)) : Int) ∧
    ∀ j : Nat, a + (j : Int) ≤ b → loK l (a + (j : Int)) = true ∧ ¬ (rlN l (a + (i : Int)) * (rlD l (a + (j : Int)) : Int) < rlN l (a + (j : Int)) * (rlD l (a + (i : Int)) : Int)) := by
  have h' := h
  unfold hlK hlA at h'
  simp only [Bool.and_eq_true, decide_eq_true_eq] at h'
  have ha := inB_yes h'.1.1.1
  have hb := inB_yes h'.1.1.2
  have hab := h'.1.2
  have hall : ∀ j : Nat, a + (j : Int) ≤ b → loK l (a + (j : Int)) = true := fun j hj => by
    have := h'.2
    rw [List.all_eq_true] at this
    exact this j (by simp; omega)
  refine ⟨by omega, bestK l a (b - a + 1).toNat, ?_, by unfold hlN; rw [h]; rfl, by unfold hlD; rw [h]; rfl, fun j hj => ⟨hall j hj, ?_⟩⟩
  · have := best_lt l a (b - a + 1).toNat (by omega)
    omega
  · have hd : ∀ j : Nat, j < (b - a + 1).toNat → 0 < lvD l (a + (j : Int)) := fun j hj => by
      have p := lo_parts (hall j (by omega))
      have := lv_bd p.1 p.2.1
      omega
    have hm := best_max (l := l) (a := a) _ hd j (by omega)
    have hi := best_lt l a (b - a + 1).toNat (by omega)
    rw [abv_red (hall j hj) (hall _ (by omega))] at hm
    exact of_decide_eq_false hm
theorem cnt_le (l : List (Int × Int)) (v a : Int) (k : Nat) : cntK l v a k ≤ k := by
  unfold cntK
  have := List.length_filter_le (fun j : Nat => lvHas l v (a + (j : Int))) (List.range k)
  simpa using this
theorem cnt_zero {l : List (Int × Int)} {v a : Int} : ∀ k : Nat, (∀ j : Nat, j < k → lvHas l v (a + (j : Int)) = false) → cntK l v a k = 0 := by
  intro k
  induction k with
  | zero => intro _; rfl
  | succ k ih => intro h; rw [cnt_no (h k (by omega)), ih (fun j hj => h j (by omega))]
/-- The first minute with a level is one minute with it. -/
theorem fm_facts {l : List (Int × Int)} {v a : Int} (h : fmK l v a = true) : mwK l v a (fmV l v a) = true ∧ mwV l v a (fmV l v a) = 1 ∧ a ≤ fmV l v a := by
  have hV : fmV l v a = a + (fmI l v a : Int) := by unfold fmV; rw [h]; rfl
  have h' := h
  unfold fmK fmG at h'
  simp only [Bool.and_eq_true, decide_eq_true_eq] at h'
  obtain ⟨⟨ha, hv⟩, hi⟩ := h'
  have hp := ask_yes ha
  have hlen := (tide_parts hp.1).1
  have hl := (tide_at hp.1 (k := l.length - 1) (by omega)).1
  have hlast : a + (fmI l v a : Int) ≤ lastT l := by unfold fmC at hi; omega
  have hle : fmV l v a ≤ 10000 := by rw [hV]; unfold lastT at hlast; omega
  have hK : mwK l v a (fmV l v a) = true := by
    unfold mwK spK
    rw [ha, hv, inB_mk (by omega) hle, decide_eq_true (show a ≤ fmV l v a by omega)]; rfl
  have hfl : fmI l v a < (List.range (fmC l a)).length := by simpa using hi
  have hyes : lvHas l v (a + (fmI l v a : Int)) = true := by
    have := List.findIdx_getElem (p := fun j : Nat => lvHas l v (a + (j : Int))) (xs := List.range (fmC l a)) (w := hfl)
    have e : (List.range (fmC l a))[fmI l v a]'hfl = fmI l v a := List.getElem_range hfl
    change lvHas l v (a + (((List.range (fmC l a))[fmI l v a]'hfl : Nat) : Int)) = true at this
    rw [e] at this
    exact this
  have hno : ∀ j : Nat, j < fmI l v a → lvHas l v (a + (j : Int)) = false := fun j hj => by
    have := List.not_of_lt_findIdx (p := fun j : Nat => lvHas l v (a + (j : Int))) (xs := List.range (fmC l a)) (i := j) hj
    simpa using this
  refine ⟨hK, ?_, by omega⟩
  unfold mwV
  rw [hK, if_pos rfl, hV, show (a + (fmI l v a : Int) - a + 1).toNat = fmI l v a + 1 by omega, cnt_yes hyes, cnt_zero _ hno]
  rfl
theorem mw_facts {l : List (Int × Int)} {v a b : Int} (h : mwK l v a b = true) : 0 ≤ mwV l v a b ∧ mwV l v a b ≤ b - a + 1 := by
  have hs : spK l a b = true := by unfold mwK at h; rw [Bool.and_eq_true] at h; exact h.1
  have hp := sp_parts hs
  have hc := cnt_le l v a (b - a + 1).toNat
  unfold mwV
  rw [h, if_pos rfl]
  omega
/-! ### laws.vInts -/
set_option maxHeartbeats 800000 in
theorem vI_same (A A' : Option Addr) (n c c' lo hi lo' hi' : Nat) (f : Nat → Int) (w : World) (h1 : IFun w lo hi A n f) (h2 : IFun w lo' hi' A' n f) (hm : n ≤ 1048576) :
    Calls Try.prog 59 #[.slice A n c, .slice A' n c'] w fun e w' => e = .returned (.bool true) ∧ ∃ k, w' = w.drewN k := by
  have H1 := Lib.hid h1
  have H2 := Lib.hid h2
  clear h1 h2
  go_enter Try.func59, Try.ntmps59
  go_wp2
  go_loopw [5] (fun i wr => ∃ k d : Nat, k ≤ n ∧ i = .int .i64 k ∧ wr = w.drewN d) (fun i _ => n - (intOf i).toNat)
  case atStart => exact ⟨0, 0, Nat.zero_le _, rfl, by rw [World.drewN_zero]⟩
  case round =>
    obtain ⟨k, d, hk, rfl, rfl⟩ := hrel
    by_cases hlt : k < n
    · obtain ⟨g, rfl, _, _, hc1, _⟩ := H1.out k hlt
      obtain ⟨g', rfl, _, _, hc2, _⟩ := H2.out k hlt
      go_wp2_with fail
      go_quiet (fail)
      go_wp2
      go_roundw
      case rel => exact ⟨k + 1, _, by omega, by go_num, rfl⟩
      case measure => simp [intOf]; omega
    · go_wp2
      go_ret
      exact ⟨rfl, _, rfl⟩
open Go.Joins Go.ChangeShapes Go.WideShapes Go.ChangeAt Go.Deep in
theorem open_code {H : Type} {enc : TypeId × Value → H} {w : World} {A : Option Addr} {n c : Nat} {d : DataW H} {p : List MemPlace} (h : DataW.Trod enc Try.prog w 0 (fun _ => true) true 22 (.slice A n c) d p) :
    n ≤ maxLen ∧ CodeRow w.heap.size A n w := by
  obtain ⟨fuel, hf⟩ := h
  rcases open_ints Try.underlying22 Try.underlying5 (by kernel_rfl) hf with ⟨hcs, _⟩ | ⟨x, l, c', zs, hcs, _, hl, hm, hz, _, hcell, hwz⟩
  · simp [Value.cells] at hcs
    obtain ⟨rfl, rfl, rfl⟩ := hcs
    exact ⟨by unfold maxLen; omega, fun j hj => absurd hj (by omega)⟩
  · simp [Value.cells] at hcs
    obtain ⟨rfl, rfl, rfl⟩ := hcs
    refine ⟨by omega, fun j hj => ?_⟩
    have hz' : zs.length = c := by simpa using hz
    have h1 := hcell j (by omega)
    have hlt := World.block_lt_of_cell? w _ h1
    have hblk : (x.add j).block = x.block := by unfold Addr.add; split <;> rfl
    have hmem : zs.getD j 0 ∈ zs := by
      rw [List.getD_eq_getElem?_getD, List.getElem?_eq_getElem (by omega)]
      exact List.getElem_mem _
    have h3 := bounds_u8 (hwz _ hmem)
    refine ⟨x, (zs.getD j 0).toNat, rfl, by rw [← hblk]; exact hlt, by omega, ?_⟩
    rw [h1]
    have e : (((zs.getD j 0).toNat : Nat) : Int) = zs.getD j 0 := by omega
    rw [e]

end Go.Proofs.Ytdmnkmdlochogaa
