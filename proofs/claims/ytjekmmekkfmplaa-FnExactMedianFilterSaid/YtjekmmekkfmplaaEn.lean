/-
  The inner depths of a track, the program: contracts of impl.innersOf and the iterator that it hands back, of impl.inner's methods over this translation. Conditions: stated at each theorem.
-/
import Derived.Test.YtjekmmekkfmplaaEc
import Derived.Test.YtjekmmekkfmplaaPy
import Derived.RangeFuncNested
import Derived.RangeFuncBound
import Derived.RangeFuncCalls
import Derived.RangeFuncLeaves
import Derived.RangeFuncBox
import Derived.Shelf.Abstract
import Derived.Shelf.RegionOpen
import Derived.OwnWalkIn
import Derived.TacticsInMore
import Derived.LoopNIn
import Derived.LoopIn
namespace Go.Proofs.Ytjekmmekkfmplaa
open Go.RowKit Go.Shelf
set_option linter.unusedVariables false
attribute [local go_sem] Oper.semAt_some

/-! ### The methods -/
theorem up_min {x y z l : Int} : decide (min x z - y > l) = (decide (y < x - l) && decide (y < z - l)) := by
  rw [Bool.eq_iff_iff]
  simp only [decide_eq_true_eq, Bool.and_eq_true]
  omega
theorem dn_max {x y z l : Int} : decide (y - max x z > l) = (decide (y > x + l) && decide (y > z + l)) := by
  rw [Bool.eq_iff_iff]
  simp only [decide_eq_true_eq, Bool.and_eq_true]
  omega
theorem md_min {x y z : Int} : min (max y (min x z)) (max x z) = mdI x y z := by
  unfold mdI
  omega
theorem isUp_v (x y z l : Int) (b : Bool) (h : (decide (y < x - l) && decide (y < z - l)) = b) (w : World) (hx : -1000000 ≤ x ∧ x ≤ 1000000) (hy : -1000000 ≤ y ∧ y ≤ 1000000) (hz : -1000000 ≤ z ∧ z ≤ 1000000) :
    Calls Try.prog 56 #[.agg #[.int .i64 x, .int .i64 y, .int .i64 z], .int .i64 l] w fun e w' => e = .returned (.bool b) ∧ Below w.heap.size w w' := by
  rw [← up_min] at h
  obtain ⟨m, hm⟩ : ∃ m, min x z = m := ⟨_, rfl⟩
  have hm2 : -1000000 ≤ m ∧ m ≤ 1000000 := by omega
  rw [hm] at h
  have H := Lib.hid h
  have HM := Lib.hid hm
  clear h hm
  go_enter Try.func56, Try.ntmps56
  go_wp2_with fail
  all_goals (try simp only [HM.out])
  all_goals (go_ret; exact ⟨ret_bool (by rw [← H.out, ← HM.out]; first | rfl | (congr 1; apply propext; omega)), (Below.refl _ _).alloc (Nat.le_refl _) _⟩)
theorem isDown_v (x y z l : Int) (b : Bool) (h : (decide (y > x + l) && decide (y > z + l)) = b) (w : World) (hx : -1000000 ≤ x ∧ x ≤ 1000000) (hy : -1000000 ≤ y ∧ y ≤ 1000000) (hz : -1000000 ≤ z ∧ z ≤ 1000000) :
    Calls Try.prog 57 #[.agg #[.int .i64 x, .int .i64 y, .int .i64 z], .int .i64 l] w fun e w' => e = .returned (.bool b) ∧ Below w.heap.size w w' := by
  rw [← dn_max] at h
  have H := Lib.hid h
  clear h
  go_enter Try.func57, Try.ntmps57
  go_wp2_with fail
  all_goals (go_ret; exact ⟨ret_bool (by rw [← H.out]; first | rfl | (congr 1; apply propext; omega)), (Below.refl _ _).alloc (Nat.le_refl _) _⟩)
theorem med_v (x y z v : Int) (h : mdI x y z = v) (w : World) :
    Calls Try.prog 84 #[.agg #[.int .i64 x, .int .i64 y, .int .i64 z]] w fun e w' => e = .returned (.int .i64 v) ∧ Below w.heap.size w w' := by
  rw [← md_min] at h
  have H := Lib.hid h
  clear h
  go_enter Try.func84, Try.ntmps84
  go_wp2_with fail
  all_goals (go_ret; exact ⟨ret_int (by rw [← H.out]; first | rfl | omega), (Below.refl _ _).alloc (Nat.le_refl _) _⟩)

/-! ### innersOf -/
abbrev encE (T : List Int) (x : Fin (T.length - 2)) : Array Value := #[.int .i64 ((x.1 : Int) + 1), .agg #[.int .i64 (T.getD x.1 0), .int .i64 (T.getD (x.1 + 1) 0), .int .i64 (T.getD (x.1 + 2) 0)]]
/-- What a round that goes on keeps: what lay ahead of n₀, and the block of the iterator's own slice. -/
def KpE (n₀ Bs : Nat) (W W' : World) : Prop := Below n₀ W W' ∧ W'.heap[Bs]? = W.heap[Bs]?
theorem kpE_t {n₀ Bs : Nat} {A B C : World} (h : KpE n₀ Bs A B) (k : KpE n₀ Bs B C) : KpE n₀ Bs A C := ⟨h.1.trans k.1, k.2.trans h.2⟩
theorem kpE_b {n₀ Bs : Nat} {w : World} (hn : n₀ ≤ w.heap.size) (hs : Bs < w.heap.size) (W : World) (l : Nat) (o o' : Obj) (hl : w.heap.size ≤ l) (h : W.heap[l]? = some o) (hc : o.isCells = false) (hw : o.isWalk = false) : KpE n₀ Bs W (W.putObj l o') :=
  ⟨belowK_b hn W l o o' hl h hc hw, World.putObj_heap_other (by omega)⟩
theorem cell_heapE {W W' : World} {b : Nat} (h : W'.heap[b]? = W.heap[b]?) (j : Nat) : W'.cell? ⟨b, j, none⟩ = W.cell? ⟨b, j, none⟩ := World.cell?_of_block (a := ⟨b, j, none⟩) h
theorem grownBy_drew1 (W : World) : W.grownBy W.drew none := ⟨rfl, rfl, rfl, Nat.le_refl _, fun _ _ _ => rfl⟩
set_option maxRecDepth 100000 in
set_option maxHeartbeats 2000000 in
theorem inners1_in (lp Bs n₀ lo hi : Nat) (A : Option Addr) (c : Nat) (T : List Int) (h3 : 3 ≤ T.length) (h30 : T.length ≤ 1000) (J Jx : List (Fin (T.length - 2)) → World → Prop)
    (hY : ∀ pre x W, J pre W → pre.length < T.length - 2 → YieldAt Fence.wide 7 Try.prog lp (encE T x) W fun e W' =>
      (e = .returned (.bool true) ∧ J (pre ++ [x]) W' ∧ KpE n₀ Bs W W') ∨ (e = .returned (.bool false) ∧ Jx (pre ++ [x]) W'))
    (W : World) (hJ : AbidesFrom W.heap.size J) (hBs : W.cell? ⟨Bs, 0, none⟩ = some (.slice A T.length c)) (hS : IFun W lo hi A T.length (fun j => T.getD j 0)) (hh : hi ≤ n₀) (h0 : J [] W) :
    CallsIn Fence.wide 8 Try.prog 81 #[.func (.yield lp) #[] #[], .pointer (some ⟨Bs, 0, none⟩)] W fun e W' => (∃ v, e = .returned v) ∧
      ((∃ ys : List (Fin (T.length - 2)), ys.map Fin.val = List.range (T.length - 2) ∧ J ys W') ∨ (∃ pre, True ∧ Jx pre W')) := by
  have hmx : Try.prog.follows .mixedOrders = true := by kernel_rfl
  obtain ⟨g, hA, _⟩ := hS 0 (by omega)
  subst hA
  refine callsIn_of_wp Try.func81 rfl trivial ?_ rfl
  simp only [Try.ntmps81, List.size_toArray, List.length_cons, List.length_nil, Nat.reduceAdd, Nat.reduceSub, Array.replicate_succ, Array.replicate_zero, List.push_toArray, List.append_toArray, List.nil_append, List.cons_append]
  have HS := Lib.hid hS
  have HK0 : Hid (KpE n₀ Bs W W) := Lib.hid ⟨Below.refl _ _, rfl⟩
  have HJ0 := Lib.hid (show (([] : List (Fin (T.length - 2))).map Fin.val = List.range 0 ∧ J [] W) from ⟨rfl, h0⟩)
  have HJA := Lib.hid hJ
  have HY := Lib.hid hY
  clear hS h0 hJ hY
  gi_wp2
  gi_loopw [3] (fun i wr => ∃ k : Nat, k + 2 ≤ T.length ∧ i = .int .i64 ((k : Int) + 1) ∧ Hid (∃ pre : List (Fin (T.length - 2)), pre.map Fin.val = List.range k ∧ J pre wr) ∧ Hid (KpE n₀ Bs W wr))
    (fun i _ => T.length + 1 - (intOf i).toNat)
  case atStart => exact ⟨0, by omega, by simp, Lib.hid ⟨[], HJ0.out⟩, HK0⟩
  case round =>
    obtain ⟨k, hk, rfl, hJ, hK⟩ := hrel
    have hbs := (cell_heapE hK.out.2 0).trans hBs
    by_cases hlt : k + 2 < T.length
    · obtain ⟨pre, hp, hj⟩ := hJ.out
      have hpl : pre.length = k := by have := congrArg List.length hp; rw [List.length_range, List.length_map] at this; exact this
      obtain ⟨g', e', _, _, c0, _⟩ := (HS.out.on hK.out.1 hh) k (by omega)
      obtain rfl : g = g' := by injection e' with h; injection h
      clear e'
      obtain ⟨g', e', _, _, c1, _⟩ := (HS.out.on hK.out.1 hh) (k + 1) (by omega)
      obtain rfl : g = g' := by injection e' with h; injection h
      clear e'
      obtain ⟨g', e', _, _, c2, _⟩ := (HS.out.on hK.out.1 hh) (k + 2) hlt
      obtain rfl : g = g' := by injection e' with h; injection h
      clear e'
      dsimp only at c0 c1 c2
      have hj2 := HJA.out pre wr wr.drew none hj (grownBy_drew1 _) (fun r e => by cases e)
      obtain ⟨fn, tmps, assign, body, hy, hR⟩ := HY.out pre ⟨k, by omega⟩ wr.drew hj2 (by omega)
      have HR := Lib.hid hR
      dsimp only [encE] at hy
      have HP : Hid ((pre ++ [(⟨k, by omega⟩ : Fin (T.length - 2))]).map Fin.val = List.range (k + 1)) := by unfold Hid; rw [List.map_append, hp, List.range_succ]; simp
      obtain ⟨x, hx⟩ : ∃ x, T.getD k 0 = x := ⟨_, rfl⟩
      obtain ⟨y, hy9⟩ : ∃ y, T.getD (k + 1) 0 = y := ⟨_, rfl⟩
      obtain ⟨z, hz⟩ : ∃ z, T.getD (k + 2) 0 = z := ⟨_, rfl⟩
      rw [hx] at c0 hy
      rw [hy9] at c1 hy
      rw [hz] at c2 hy
      clear hx hy9 hz hp hj hJ hR hj2
      gi_wp2
      have lc0 := lcell c0
      have lc1 := lcell c1
      have lc2 := lcell c2
      have lc3 := lcell hbs
      refine region_readsF (W := wr) 17 [0, 1, 2, 3, 4, 5, 6, 7, 8, 9, 10, 11, 12, 13, 14, 15, 16] hmx (by kernel_rfl) (Below.refl _ _) (by kernel_rfl) (fun d _ _ _ _ h => by cases d <;> exact h) ?_
      simp only [picks, List.getElem?_cons_succ, List.getElem?_cons_zero, List.drop_succ_cons, List.drop_zero]
      repeat (go_big_quiet_step (fail))
      refine wpQuiet_nil ?_
      clear lc0 lc1 lc2 lc3
      gi_wp2
      refine HR.out.mono ?_
      rintro e W3 (⟨rfl, hJ3, hk3⟩ | ⟨rfl, hJx3⟩)
      · have HK3 := Lib.hid (kpE_t hK.out (kpE_t ⟨(Below.refl _ _).drew, rfl⟩ hk3))
        have HJ3 := Lib.hid hJ3
        clear hJ3 hk3
        gi_wp2
        go_roundw
        case rel => exact ⟨k + 1, by omega, by go_num, Lib.hid ⟨_, HP.out, HJ3.out⟩, HK3⟩
        case measure => simp [intOf]; try omega
      · gi_wp2
        refine bodyPost_ret (results_none rfl _ _ _) rfl ?_
        exact ⟨⟨_, rfl⟩, .inr ⟨_, trivial, hJx3⟩⟩
    · obtain rfl : k = T.length - 2 := by omega
      obtain ⟨pre, hp, hj⟩ := hJ.out
      gi_wp2
      go_end0
      exact ⟨⟨_, rfl⟩, .inl ⟨pre, hp, hj⟩⟩
set_option maxHeartbeats 1000000 in
theorem inners_in (a : Option Addr) (len cap : Nat) (w : World) :
    Calls Try.prog 55 #[.slice a len cap] w fun e w' => e = .returned (.func (.func 81) #[] #[.pointer (some ⟨w.heap.size, 0, none⟩)]) ∧ w' = w.alloc (.cells #[.slice a len cap] 24) := by
  go_enter Try.func55, Try.ntmps55
  go_wp2_with fail
  go_ret
  exact ⟨rfl, rfl⟩
theorem inners_stops (Bs n₀ lo hi : Nat) (A : Option Addr) (c : Nat) (T : List Int) (h3 : 3 ≤ T.length) (h30 : T.length ≤ 1000) (w : World) (hBs : Bs < w.heap.size) (hn₀ : n₀ ≤ w.heap.size)
    (hc : w.cell? ⟨Bs, 0, none⟩ = some (.slice A T.length c)) (hS : IFun w lo hi A T.length (fun j => T.getD j 0)) (hh : hi ≤ n₀) :
    SeqStopsK Fence.wide 8 Try.prog 81 #[.pointer (some ⟨Bs, 0, none⟩)] (encE T) (KpE n₀ Bs) (fun ys => ys.map Fin.val = List.range (T.length - 2)) (fun _ => True) (T.length - 2) w := fun lp J Jx W hW hJ _ hY h0 =>
  inners1_in lp Bs n₀ lo hi A c T h3 h30 J Jx hY W hJ ((hW.cell (p := ⟨Bs, 0, none⟩) hBs).trans hc) (hS.on hW (Nat.le_trans hh hn₀)) hh h0
end Go.Proofs.Ytjekmmekkfmplaa
