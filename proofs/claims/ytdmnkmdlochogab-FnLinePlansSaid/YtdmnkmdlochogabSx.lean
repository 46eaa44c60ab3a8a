/-
  Sorted lines: contracts of slices.pdqsortCmpFunc, SortFunc, Values, AppendSeq, Collect, SortedFunc over lines (at most eight) and of impl.sailedLines over this translation. Conditions: stated at each theorem.
-/
import Derived.Test.YtdmnkmdlochogabSr
import Derived.Test.YtdmnkmdlochogabBl
import Derived.RangeFuncNested
import Derived.RangeFuncBound
import Derived.RangeFuncCalls
import Derived.RangeFuncLeaves
import Derived.RangeFuncBox
import Derived.Shelf.Abstract
import Derived.Shelf.RegionOpen
import Derived.OwnWalkIn
import Derived.TacticsInMore
import Derived.LoopNIn
import Derived.LoopIn
import Derived.Maps.AppendAt
namespace Go.Proofs.Ytdmnkmdlochogab
open Go.RowKit Go.Shelf
set_option linter.unusedVariables false
attribute [local go_sem] Oper.semAt_some

/-! ### The sort -/
set_option maxRecDepth 20000 in
set_option maxHeartbeats 3200000 in
theorem pdq_any (B g cap n : Nat) (lim : Int) (M : List LN) (w : World) (h : FillSN w B g n n M) (hl : M.length = n) (h0 : 1 ≤ n) (h8 : n ≤ 8) (hap : Apart9 M) :
    Calls Try.prog 190 #[.slice (some ⟨g, 0, none⟩) n cap, .int .i64 0, .int .i64 n, .int .i64 lim, .func (.func 164) #[] #[]] w (SortPost B g n M w) := by
  have HP := Lib.hid (isort_any B g cap n M w h hl h0 h8 hap)
  clear h hap hl
  go_enter Try.func190, Try.ntmps190
  go_wp2_with fail
  refine wp_loop_rounds 1 ?_
  rw [rounds_succ]
  go_wp2_with fail
  refine HP.out.mono ?_
  rintro e w1 ⟨rfl, hq⟩
  have HQ := Lib.hid hq
  clear hq
  go_wp2_with fail
  (try simp only [Exit.inBlock, Exit.then])
  refine bodyPost_ret (results_none rfl _ _ _) rfl ?_
  exact ⟨rfl, HQ.out⟩
set_option maxRecDepth 20000 in
set_option maxHeartbeats 1600000 in
theorem sort_any (B g cap n : Nat) (M : List LN) (w : World) (h : FillSN w B g n n M) (hl : M.length = n) (h0 : 1 ≤ n) (h8 : n ≤ 8) (hap : Apart9 M) :
    Calls Try.prog 184 #[.slice (some ⟨g, 0, none⟩) n cap, .func (.func 164) #[] #[]] w (SortPost B g n M w) := by
  have HP := Lib.hid (fun lim => pdq_any B g cap n lim M w h hl h0 h8 hap)
  clear h hap hl
  go_enter Try.func184, Try.ntmps184
  go_wp2_with fail
  refine (len_small n h8 _).mono ?_
  rintro e w' ⟨⟨lim, rfl⟩, rfl⟩
  go_wp2_with fail
  refine (HP.out lim).mono ?_
  rintro e w1 ⟨rfl, hq⟩
  have HQ := Lib.hid hq
  clear hq
  go_wp2_with fail
  go_end0
  exact ⟨rfl, HQ.out⟩
/-! ### No line -/
set_option maxRecDepth 20000 in
set_option maxHeartbeats 1600000 in
theorem isort_none (A : Option Addr) (cap : Nat) (w : World) :
    Calls Try.prog 192 #[.slice A 0 cap, .int .i64 0, .int .i64 0, .func (.func 164) #[] #[]] w fun e w' => e = .returned (.tuple #[]) ∧ w = w' := by
  go_enter Try.func192, Try.ntmps192
  go_wp2_with fail
  go_loop [8] (fun s => s = .int .i64 1) (fun s => (intOf s).toNat)
  case atStart => rfl
  case round =>
    obtain rfl := hrel
    go_wp2_with fail
    go_end0
    exact ⟨rfl, rfl⟩
set_option maxRecDepth 20000 in
set_option maxHeartbeats 3200000 in
theorem pdq_none (A : Option Addr) (cap : Nat) (lim : Int) (w : World) :
    Calls Try.prog 190 #[.slice A 0 cap, .int .i64 0, .int .i64 0, .int .i64 lim, .func (.func 164) #[] #[]] w fun e w' => e = .returned (.tuple #[]) ∧ w = w' := by
  go_enter Try.func190, Try.ntmps190
  go_wp2_with fail
  refine wp_loop_rounds 1 ?_
  rw [rounds_succ]
  go_wp2_with fail
  refine (isort_none A cap _).mono ?_
  rintro e w' ⟨rfl, rfl⟩
  go_wp2_with fail
  (try simp only [Exit.inBlock, Exit.then])
  refine bodyPost_ret (results_none rfl _ _ _) rfl ?_
  exact ⟨rfl, rfl⟩
set_option maxRecDepth 20000 in
set_option maxHeartbeats 1600000 in
theorem sort_none (A : Option Addr) (cap : Nat) (w : World) :
    Calls Try.prog 184 #[.slice A 0 cap, .func (.func 164) #[] #[]] w fun e w' => e = .returned (.tuple #[]) ∧ w = w' := by
  go_enter Try.func184, Try.ntmps184
  go_wp2_with fail
  refine (len_small 0 (by decide) _).mono ?_
  rintro e w' ⟨⟨lim, rfl⟩, rfl⟩
  go_wp2_with fail
  refine (pdq_none A cap lim _).mono ?_
  rintro e w' ⟨rfl, rfl⟩
  go_wp2_with fail
  go_end0
  exact ⟨rfl, rfl⟩
/-! ### The lines one behind the other -/
abbrev encN (x : LN) : Array Value := #[.agg #[.int .i64 x.id, .int .i64 x.y, .int .i64 x.fr, .int .i64 x.to, .int .i64 x.sw]]
set_option maxRecDepth 100000 in
set_option maxHeartbeats 2000000 in
theorem vals1_in (F : Fence) (n : Nat) (hf : F.fn 185) (hro : F.round = none) (hn : 1 ≤ n) (lp Bs n₀ : Nat) (A : Option Addr) (c : Nat) (L : List LN) (h8 : L.length ≤ 8) (J Jx : List LN → World → Prop)
    (hY : ∀ pre x W, J pre W → pre.length < L.length → YieldAt F (n - 1) Try.prog lp (encN x) W fun e W' =>
      (e = .returned (.bool true) ∧ J (pre ++ [x]) W' ∧ Below n₀ W W') ∨ (e = .returned (.bool false) ∧ Jx (pre ++ [x]) W'))
    (W : World) (hJ : AbidesFrom W.heap.size J) (hn₀ : n₀ ≤ W.heap.size) (hBs : W.cell? ⟨Bs, 0, none⟩ = some (.slice A L.length c)) (hS : SdsN W n₀ A L.length L) (h0 : J [] W) :
    CallsIn F n Try.prog 185 #[.func (.yield lp) #[] #[], .pointer (some ⟨Bs, 0, none⟩)] W fun e W' => (∃ v, e = .returned v) ∧
      ((∃ ys : List LN, ys = L ∧ J ys W') ∨ (∃ pre, True ∧ Jx pre W')) := by
  refine callsIn_of_wp Try.func185 rfl hf ?_ hro
  simp only [Try.ntmps185, List.size_toArray, List.length_cons, List.length_nil, Nat.reduceAdd, Nat.reduceSub, Array.replicate_succ, Array.replicate_zero, List.push_toArray, List.append_toArray, List.nil_append, List.cons_append]
  have HS := Lib.hid hS
  have HJ := Lib.hid hJ
  have HK0 : Hid (Below n₀ W W) := Lib.hid (Below.refl _ _)
  have HJ0 := Lib.hid (show J (L.take 0) W from h0)
  clear hS h0 hJ
  gi_wp2
  gi_loopw [7] (fun i wr => ∃ k : Nat, k ≤ L.length ∧ i = .int .i64 k ∧ Hid (J (L.take k) wr) ∧ Hid (Below n₀ W wr))
    (fun i _ => L.length - (intOf i).toNat)
  case atStart => exact ⟨0, Nat.zero_le _, rfl, HJ0, HK0⟩
  case round =>
    obtain ⟨k, hk, rfl, hJk, hK⟩ := hrel
    obtain ⟨wq, hwq⟩ : ∃ wq : World, wq = wr := ⟨_, rfl⟩
    rw [← hwq] at hJk hK ⊢
    clear hwq
    by_cases hlt : k < L.length
    · obtain ⟨b, o, u, rfl, hbl, hL, c0, c1, c2, c3, c4⟩ := (HS.out.on hK.out (Nat.le_refl _)).2 k hlt
      have hT : L.take (k + 1) = L.take k ++ [u] := by rw [List.take_add_one, hL]; rfl
      have hJ2 := HJ.out (L.take k) wq (wq.alloc (.cells #[.int .i64 u.id, .int .i64 u.y, .int .i64 u.fr, .int .i64 u.to, .int .i64 u.sw] 34)) none hJk.out (World.grownBy_alloc _ _ none) (fun r e => by cases e)
      obtain ⟨fn, tmps, assign, body, hy, hR⟩ := hY (L.take k) u (wq.alloc (.cells #[.int .i64 u.id, .int .i64 u.y, .int .i64 u.fr, .int .i64 u.to, .int .i64 u.sw] 34)) hJ2 (by rw [List.length_take]; omega)
      have HT := Lib.hid hT
      have HKA := Lib.hid (hK.out.alloc (Nat.le_trans hn₀ hK.out.size) (.cells #[.int .i64 u.id, .int .i64 u.y, .int .i64 u.fr, .int .i64 u.to, .int .i64 u.sw] 34))
      dsimp only [encN] at hy
      clear hJ2 hL hT
      gi_wp2
      refine hR.mono ?_
      rintro e W3 (⟨rfl, hJ3, hk3⟩ | ⟨rfl, hJx3⟩)
      · have HK3 := Lib.hid (HKA.out.trans hk3)
        have HJ3 : Hid (J (L.take (k + 1)) W3) := by unfold Hid; rw [HT.out]; exact hJ3
        clear hJ3 hk3
        gi_wp2
        go_roundw
        case rel => exact ⟨k + 1, by omega, by go_num, HJ3, HK3⟩
        case measure => simp [intOf]; omega
      · gi_wp2
        refine bodyPost_ret (results_none rfl _ _ _) rfl ?_
        exact ⟨⟨_, rfl⟩, .inr ⟨_, trivial, hJx3⟩⟩
    · obtain rfl : k = L.length := by omega
      have HJ9 : Hid (J L wq) := by have h := hJk.out; rw [List.take_length] at h; exact h
      gi_wp2
      go_end0
      exact ⟨⟨_, rfl⟩, .inl ⟨L, rfl, HJ9.out⟩⟩
theorem vals_stops (F : Fence) (n : Nat) (hf : F.fn 185) (hro : F.round = none) (hn : 1 ≤ n) (Bs n₀ : Nat) (A : Option Addr) (c : Nat) (L : List LN) (h8 : L.length ≤ 8) (w : World) (hBs : Bs < w.heap.size) (hn₀ : n₀ ≤ w.heap.size)
    (hc : w.cell? ⟨Bs, 0, none⟩ = some (.slice A L.length c)) (hS : SdsN w n₀ A L.length L) :
    SeqStopsK F n Try.prog 185 #[.pointer (some ⟨Bs, 0, none⟩)] encN (Below n₀) (fun ys => ys = L) (fun _ => True) L.length w := fun lp J Jx W hW hJ _ hY h0 =>
  vals1_in F n hf hro hn lp Bs n₀ A c L h8 J Jx hY W hJ (Nat.le_trans hn₀ hW.size) ((hW.cell (p := ⟨Bs, 0, none⟩) hBs).trans hc) (hS.on hW hn₀) h0
set_option maxRecDepth 100000 in
set_option maxHeartbeats 3200000 in
theorem seqN_in (n : Nat) (hn : 3 ≤ n) (Bs : Nat) (A : Option Addr) (c : Nat) (L : List LN) (h8 : L.length ≤ 8) (w : World) (hBs : Bs < w.heap.size)
    (hc : w.cell? ⟨Bs, 0, none⟩ = some (.slice A L.length c)) (hS : SdsN w w.heap.size A L.length L) :
    CallsIn Fence.wide n Try.prog 189 #[.slice none 0 0, .func (.func 185) #[] #[.pointer (some ⟨Bs, 0, none⟩)]] w fun e W' =>
      ∃ v, e = .returned v ∧ W'.ownsRow w.heap.size 34 5 v L.length (cellsSN L) ∧ Below w.heap.size w W' := by
  have h1 : 1 ≤ n := by omega
  obtain ⟨i0, hi, hz0, hz1, hz2⟩ := info_parts infoSoundN
  refine callsIn_of_wp_marks Try.func189 rfl trivial ?_ rfl
  simp only [Try.ntmps189, List.size_toArray, List.length_cons, List.length_nil, Nat.reduceAdd, Nat.reduceSub, Array.replicate_succ, Array.replicate_zero, List.push_toArray, List.append_toArray, List.nil_append, List.cons_append]
  gi_wp2
  have bO := Boxed.new w 28 (.slice none 0 0)
  have hB0 : Below w.heap.size w (w.alloc (.cells #[.slice none 0 0] 28)) := (Below.refl _ w).alloc (Nat.le_refl _) _
  have hc0 := (hB0.cell (p := ⟨Bs, 0, none⟩) hBs).trans hc
  refine wpIn_rangeFunc_ownH rfl h1 (gf := 185) (lb := #[.pointer (some ⟨Bs, 0, none⟩)]) rfl trivial (enters_of Try.func185 (by kernel_rfl) rfl)
    (vals_stops Fence.wide (n - 1) trivial rfl (by omega) Bs w.heap.size A c L h8 _ (by simp; omega) (by simp) hc0 (hS.on hB0 (Nat.le_refl _))) belowK_t (belowK_b (by simp)) (Below.refl _ _) (fun _ => rfl)
    (fun pre W => (∃ v, Boxed W w.heap.size 28 v ∧ W.ownsRow w.heap.size 34 5 v pre.length (cellsSN pre) ∧ True) ∧ Below w.heap.size w W)
    (fun _ _ _ => False)
    (OwnFrom.and (Own.from (holdsRow_own w.heap.size w.heap.size 28 34 5 (fun pre : List LN => pre.length) (fun pre => cellsSN pre) (fun _ _ => True)) _) (ownFrom_below (Nat.le_refl _) (by simp)))
    (fun _ _ _ _ _ hs _ _ => hs)
    ⟨⟨_, bO, World.ownsRow_nil _ _ _ _, trivial⟩, hB0⟩
    (fun x a' W => ∃ Bx, w.heap.size < Bx ∧ (W.cell? ⟨Bx, 0, none⟩ = some (.int .i64 x.id) ∧ W.cell? ⟨Bx, 1, none⟩ = some (.int .i64 x.y) ∧ W.cell? ⟨Bx, 2, none⟩ = some (.int .i64 x.fr) ∧ W.cell? ⟨Bx, 3, none⟩ = some (.int .i64 x.to) ∧ W.cell? ⟨Bx, 4, none⟩ = some (.int .i64 x.sw)) ∧ a' = { tmps := #[.slice none 0 0, .func (.func 185) #[] #[.pointer (some ⟨Bs, 0, none⟩)], .pointer (some ⟨w.heap.size, 0, none⟩), undef, .slice none 0 0, .pointer (some ⟨Bx, 0, none⟩), .func (.func 185) #[] #[.pointer (some ⟨Bs, 0, none⟩)], .agg #[.int .i64 x.id, .int .i64 x.y, .int .i64 x.fr, .int .i64 x.to, .int .i64 x.sw], undef, undef, undef, undef, undef], defers := [] })
    (fun x a' _ X Y row hs hg hr => by
      obtain ⟨Bx, h1, ⟨k0, k1, k2, k3, k4⟩, h3⟩ := hs
      have kk : ∀ (a : Addr) (v : Value), X.cell? a = some v → Y.cell? a = some v := fun a v h => cell_kept h hg (fun r e => (hr r e).2)
      exact ⟨Bx, h1, ⟨kk _ _ k0, kk _ _ k1, kk _ _ k2, kk _ _ k3, kk _ _ k4⟩, h3⟩)
    ?assign ?body ?done ?stop
  case assign =>
    rintro lp pre x W K ⟨⟨v, hv, hrow, -⟩, hB⟩ hK
    gi_wp2
    exact hK _ _ ((KeepsOthers.alloc _ _).from _) ((Below.refl _ W).alloc hB.size _) ⟨⟨v, hv.alloc _, hrow.alloc _, trivial⟩, hB.alloc hB.size _⟩ ⟨W.heap.size, hv.lt, ⟨World.cell?_alloc_new _ _ _ _, World.cell?_alloc_new _ _ _ _, World.cell?_alloc_new _ _ _ _, World.cell?_alloc_new _ _ _ _, World.cell?_alloc_new _ _ _ _⟩, rfl⟩
  case body =>
    rintro lp pre x a' W hlp ⟨r, hr⟩ ⟨⟨v, hv, hrow, -⟩, hB⟩ ⟨Bx, hBx, ⟨k0, k1, k2, k3, k4⟩, rfl⟩ hlt
    have hcv := hv.cell
    gi_wp2_with (gi_at_builtin; refine wpListIn_append_own _ rfl _ _ 28 rfl w.heap.size 34 i0 (.agg #[.int .i64 0, .int .i64 0, .int .i64 0, .int .i64 0, .int .i64 0]) 5 40 Try.underlying28 hi hz0 hz1 hz2 rfl (by decide) _ _ _ rfl (hrow.alloc _) ⟨W.heap.size, 0, none⟩ 1 1 [.int .i64 x.id, .int .i64 x.y, .int .i64 x.fr, .int .i64 x.to, .int .i64 x.sw] rfl rfl (five_newN W x _) (by simp [Value.oneCell']) (by unfold maxLen; omega) (by omega) (by have := hB.size; simp; omega) ?_; intro v' w1 hown' hgrow _; obtain ⟨g', cap', rfl⟩ := ownsRow_succ hown'; obtain ⟨hv1, hv2, hr2, hk2, hb2⟩ := hv.appended (by decide) hrow hB.size (Nat.le_refl _) hown' hgrow; have hc1 := hv1.cell; have hf1 := hv1.frozen)
    exact ⟨hk2.from _, hb2, ⟨_, hv2, by rw [cellsS_snocN, List.length_append]; exact hr2, trivial⟩, hB.trans hb2⟩
  case done =>
    rintro D ys W hD rfl ⟨⟨v, hv, hrow, -⟩, hB⟩ hK
    have hcv := hv.cell
    gi_wp2
    refine ⟨by simp, .inl ⟨_, _, rfl, run_takeDeferred hK, ?_⟩⟩
    exact ⟨_, results_tmp rfl _ _ _, v, rfl, ownsRow_putObj hrow _ hK rfl, hB.trans (belowK_b (w := w) (Nat.le_refl _) W D _ _ (by simp at hD; omega) hK rfl rfl)⟩
  case stop =>
    rintro D c pre W _ _ h _
    exact h.elim
/-! ### impl.sailedLines -/
def SortedPost (L : List LN) (w : World) (e : Ending) (w' : World) : Prop :=
  ∃ (A : Option Addr) (c : Nat), e = .returned (.slice A L.length c) ∧ OwnSN w' w.heap.size w'.heap.size A L.length (ordS L) ∧ Below w.heap.size w w'
theorem vals_any (A : Option Addr) (n c : Nat) (w : World) :
    Calls Try.prog 163 #[.slice A n c] w fun e w' => e = .returned (.func (.func 185) #[] #[.pointer (some ⟨w.heap.size, 0, none⟩)]) ∧ w' = w.alloc (.cells #[.slice A n c] 28) := by
  go_enter Try.func163, Try.ntmps163
  go_wp2
  go_ret
  exact ⟨rfl, rfl⟩
theorem collect_any (Bs : Nat) (A : Option Addr) (c : Nat) (L : List LN) (h8 : L.length ≤ 8) (w : World) (hBs : Bs < w.heap.size)
    (hc : w.cell? ⟨Bs, 0, none⟩ = some (.slice A L.length c)) (hS : SdsN w w.heap.size A L.length L) :
    Calls Try.prog 183 #[.func (.func 185) #[] #[.pointer (some ⟨Bs, 0, none⟩)]] w fun e W' =>
      ∃ v, e = .returned v ∧ W'.ownsRow w.heap.size 34 5 v L.length (cellsSN L) ∧ Below w.heap.size w W' := by
  have HP := Lib.hid ((callsIn_wide (n := 9)).1 (seqN_in 9 (by decide) Bs A c L h8 w hBs hc hS))
  clear hc hS
  go_enter Try.func183, Try.ntmps183
  go_wp2_with fail
  refine HP.out.mono ?_
  rintro e w1 ⟨v, rfl, hv, hb⟩
  have HV := Lib.hid (And.intro hv hb)
  clear hv hb
  go_wp2_with fail
  go_ret
  exact ⟨v, rfl, HV.out⟩
set_option maxHeartbeats 1600000 in
theorem sortedN_any (Bs : Nat) (A : Option Addr) (c : Nat) (L : List LN) (hg : Good9 L) (w : World) (hBs : Bs < w.heap.size)
    (hc : w.cell? ⟨Bs, 0, none⟩ = some (.slice A L.length c)) (hS : SdsN w w.heap.size A L.length L) :
    Calls Try.prog 162 #[.func (.func 185) #[] #[.pointer (some ⟨Bs, 0, none⟩)], .func (.func 164) #[] #[]] w (SortedPost L w) := by
  have h8 := hg.max
  have HP := Lib.hid (collect_any Bs A c L h8 w hBs hc hS)
  have HG := Lib.hid hg
  clear hc hS hg
  go_enter Try.func162, Try.ntmps162
  go_wp2_with fail
  refine HP.out.mono ?_
  rintro e w1 ⟨v, rfl, hv, hb⟩
  rcases Nat.eq_zero_or_pos L.length with h0 | h0
  · have HL0 : Hid (L = []) := Lib.hid (List.length_eq_zero_iff.1 h0)
    obtain ⟨A1, c1, rfl⟩ := own_slice hv
    have HV := Lib.hid hb
    clear hv hb
    rw [h0]
    go_wp2_with fail
    refine (sort_none A1 c1 _).mono ?_
    rintro e w' ⟨rfl, rfl⟩
    go_wp2_with fail
    go_ret
    refine ⟨A1, c1, by rw [h0]; rfl, ?_, HV.out⟩
    exact ⟨ordS_len L, .inl h0⟩
  · obtain ⟨g, c1, rfl⟩ : ∃ g c1, v = .slice (some ⟨g, 0, none⟩) L.length c1 := by
      rcases hv.2 with ⟨_, e⟩ | ⟨g, cap, cur, e, _⟩
      · omega
      · exact ⟨g, cap, e⟩
    have HF := Lib.hid (fillS_rowN hv rfl)
    have HB1 := Lib.hid hb
    clear hv hb
    go_wp2_with fail
    refine (sort_any _ g c1 L.length L _ HF.out rfl h0 h8 (apart_good HG.out)).mono ?_
    rintro e w2 ⟨rfl, N, hp, hsr, hF, hG⟩
    have HN : Hid (N = ordS L) := Lib.hid (sorted_same hsr (ordS_sorted HG.out) (hp.trans (ordS_perm L).symm))
    have HB2 := Lib.hid (HB1.out.grown hG HB1.out.size (fun b e => by obtain rfl := Option.some.inj e; exact HF.out.low))
    have HF2 := Lib.hid (show OwnSN w2 w.heap.size w2.heap.size (some ⟨g, 0, none⟩) L.length N from ⟨hp.length_eq, .inr ⟨g, rfl, hF.lt, hF⟩⟩)
    clear hp hsr hF hG
    go_wp2_with fail
    go_ret
    exact ⟨_, c1, rfl, by rw [← HN.out]; exact HF2.out, HB2.out⟩
set_option maxHeartbeats 1600000 in
theorem sailed_impl (A : Option Addr) (n c : Nat) (L : List LN) (hg : Good9 L) (w : World) (hs : SdsN w w.heap.size A n L) :
    Calls Try.prog 93 #[.slice A n c] w (SortedPost L w) := by
  obtain rfl := hs.1
  have HX := Lib.hid (box1 (w := w) (cs := #[.slice A L.length c]) (T := 28) (Below.refl _ _))
  have HS := Lib.hid (sds_atN hs HX.out.1)
  have HC := Lib.hid (HX.out.2.at_ 0 _ rfl)
  clear hs
  go_enter Try.func93, Try.ntmps93
  go_wp2_with fail
  refine (vals_any A L.length c _).mono ?_
  rintro e w' ⟨rfl, rfl⟩
  go_wp2_with fail
  refine (sortedN_any w.heap.size A c L hg _ (by simp) HC.out HS.out).mono ?_
  rintro e w2 ⟨A2, c2, rfl, hS2, hb⟩
  have HP : Hid (SortedPost L w (.returned (.slice A2 L.length c2)) w2) := Lib.hid ⟨A2, c2, rfl, hS2.wide (by simp) (Nat.le_refl _), (box1 hb).1⟩
  clear hS2 hb
  go_wp2_with fail
  go_ret
  exact HP.out
end Go.Proofs.Ytdmnkmdlochogab
