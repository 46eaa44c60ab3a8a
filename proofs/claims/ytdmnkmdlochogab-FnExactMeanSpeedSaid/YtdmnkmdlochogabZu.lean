/-
  Sums from the back: contracts of slices.Backward over layers, impl.sumAbove with the functions that travelOf and MeanSpeed hand it, impl.travelOf over this translation. Conditions: stated at each theorem.
-/
import Derived.Test.YtdmnkmdlochogabZv
import Derived.Test.YtdmnkmdlochogabPr
import Derived.RangeFuncNested
import Derived.RangeFuncBound
import Derived.RangeFuncCalls
import Derived.RangeFuncLeaves
import Derived.RangeFuncBox
import Derived.Shelf.Abstract
import Derived.Shelf.RegionOpen
import Derived.OwnWalkIn
import Derived.TacticsInMore
import Derived.LoopNIn
import Derived.LoopIn
namespace Go.Proofs.Ytdmnkmdlochogab
open Go.RowKit Go.Shelf
set_option linter.unusedVariables false
attribute [local go_sem] Oper.semAt_some

/-! ### Plainly -/
def sgK (G : Int → Int → Int) (l : List (Int × Int)) (d : Int) : Nat → Int
  | 0 => 0
  | k + 1 => sgK G l d k + G (thc l k d) (spdAt l k)
theorem tv_sg (l : List (Int × Int)) (d : Int) (k : Nat) : tvK l d k = sgK (fun t s => t * 100000 / s) l d k := by
  induction k with
  | zero => rfl
  | succ k ih => rw [tvK, sgK, ih]
theorem mn_sg (l : List (Int × Int)) (d : Int) (k : Nat) : mnK l d k = sgK (fun t s => t * s) l d k := by
  induction k with
  | zero => rfl
  | succ k ih => rw [mnK, sgK, ih]
def endT (l : List (Int × Int)) (d : Int) (i : Nat) : Int := if i < l.length then min d (depAt l i) else d
def sgStep (G : Int → Int → Int) (l : List (Int × Int)) (p : Int × Int) (i : Nat) : Int × Int := if depAt l i < p.2 then (p.1 + G (p.2 - depAt l i) (spdAt l i), depAt l i) else p
def sgF (G : Int → Int → Int) (l : List (Int × Int)) (d : Int) (is : List Nat) : Int × Int := is.foldl (sgStep G l) (0, d)
theorem sgF_snoc (G : Int → Int → Int) (l : List (Int × Int)) (d : Int) (is : List Nat) (i : Nat) : sgF G l d (is ++ [i]) = sgStep G l (sgF G l d is) i := by simp [sgF]
def bk (n k : Nat) : List Nat := (List.range k).map fun j => n - 1 - j
theorem bk_succ (n k : Nat) : bk n (k + 1) = bk n k ++ [n - 1 - k] := by simp [bk, List.range_succ]
theorem bk_len (n k : Nat) : (bk n k).length = k := by simp [bk]
theorem sg_all (G : Int → Int → Int) (hG : ∀ s, G 0 s = 0) {l : List (Int × Int)} (hl : Lays l) {d : Int} (hd : 0 ≤ d) {k : Nat} (hk : k ≤ l.length) :
    sgF G l d (bk l.length k) = (sgK G l d l.length - sgK G l d (l.length - k), endT l d (l.length - k)) := by
  induction k with
  | zero => simp [bk, sgF, endT]
  | succ k ih =>
    obtain ⟨i, hi⟩ : ∃ i, l.length - k = i + 1 := ⟨l.length - k - 1, by omega⟩
    have e1 : l.length - 1 - k = i := by omega
    have e2 : l.length - (k + 1) = i := by omega
    have hil : i < l.length := by omega
    have hdi := hl.dep i hil
    rw [bk_succ, sgF_snoc, ih (by omega), hi, e1, e2, sgStep, sgK]
    have he : endT l d (i + 1) = endAt l i d := rfl
    have hx : endAt l i d ≤ d := by unfold endAt; split <;> omega
    dsimp only
    rw [he]
    by_cases h : depAt l i < endAt l i d
    · rw [if_pos h]
      have e3 : thc l i d = endAt l i d - depAt l i := by unfold thc; omega
      have e4 : endT l d i = depAt l i := by unfold endT; rw [if_pos hil]; omega
      rw [e3, e4]
      refine Prod.ext ?_ rfl
      simp only
      omega
    · rw [if_neg h]
      have e3 : thc l i d = 0 := by unfold thc; omega
      have e4 : endT l d i = endAt l i d := by
        unfold endT; rw [if_pos hil]
        by_cases hn : i + 1 < l.length
        · have := hl.asc i hn
          have e5 : endAt l i d = min d (depAt l (i + 1)) := by unfold endAt; rw [if_pos hn]
          omega
        · have e5 : endAt l i d = d := by unfold endAt; rw [if_neg hn]
          omega
      rw [e3, e4, hG]
      refine Prod.ext ?_ rfl
      simp only
      omega
theorem sg_inv (G : Int → Int → Int) (M : Int) {l : List (Int × Int)} (hl : Lays l) {d : Int} (hd' : d ≤ 20001)
    (hG : ∀ t s, 0 ≤ t → t ≤ 20001 → 14000 ≤ s → s ≤ 16000 → 0 ≤ G t s ∧ G t s ≤ M) (hM : 0 ≤ M) : ∀ (is : List Nat) (p : Int × Int) (m : Nat), 0 ≤ p.1 → p.1 ≤ M * m → 0 ≤ p.2 → p.2 ≤ d → (∀ i ∈ is, i < l.length) →
    0 ≤ (is.foldl (sgStep G l) p).1 ∧ (is.foldl (sgStep G l) p).1 ≤ M * ((m + is.length : Nat) : Int) ∧ 0 ≤ (is.foldl (sgStep G l) p).2 ∧ (is.foldl (sgStep G l) p).2 ≤ d
  | [], p, m, h1, h2, h3, h4, _ => ⟨h1, by simpa using h2, h3, h4⟩
  | i :: is, p, m, h1, h2, h3, h4, h5 => by
    have hi := h5 i (by simp)
    have hdi := hl.dep i hi
    have hsi := hl.spd i hi
    have hm : M * ((m + 1 : Nat) : Int) = M * m + M := by rw [Int.natCast_add, Int.mul_add]; simp
    rw [List.foldl_cons, show m + (i :: is).length = (m + 1) + is.length by simp; omega]
    refine sg_inv G M hl hd' hG hM is _ (m + 1) ?_ ?_ ?_ ?_ (fun j hj => h5 j (by simp [hj]))
    all_goals unfold sgStep
    all_goals split
    all_goals (try simp only)
    all_goals (try rw [hm])
    all_goals (try omega)
    all_goals (have := hG (p.2 - depAt l i) (spdAt l i) (by omega) (by omega) hsi.1 hsi.2; omega)

/-! ### slices.Backward -/
abbrev encB (l : List (Int × Int)) (x : Fin l.length) : Array Value := #[.int .i64 (x.1 : Int), .agg #[.int .i64 (depAt l x.1), .int .i64 (spdAt l x.1)]]
def KpB (n₀ Bs : Nat) (W W' : World) : Prop := Below n₀ W W' ∧ W'.heap[Bs]? = W.heap[Bs]?
theorem kpB_t {n₀ Bs : Nat} {A B C : World} (h : KpB n₀ Bs A B) (k : KpB n₀ Bs B C) : KpB n₀ Bs A C := ⟨h.1.trans k.1, k.2.trans h.2⟩
theorem kpB_b {n₀ Bs : Nat} {w : World} (hn : n₀ ≤ w.heap.size) (hs : Bs < w.heap.size) (W : World) (l : Nat) (o o' : Obj) (hl : w.heap.size ≤ l) (h : W.heap[l]? = some o) (hc : o.isCells = false) (hw : o.isWalk = false) : KpB n₀ Bs W (W.putObj l o') :=
  ⟨belowK_b hn W l o o' hl h hc hw, World.putObj_heap_other (by omega)⟩
theorem cell_heap {W W' : World} {b : Nat} (h : W'.heap[b]? = W.heap[b]?) (j : Nat) : W'.cell? ⟨b, j, none⟩ = W.cell? ⟨b, j, none⟩ := World.cell?_of_block (a := ⟨b, j, none⟩) h
set_option maxRecDepth 100000 in
set_option maxHeartbeats 2000000 in
theorem back1_in (F : Fence) (n : Nat) (hf : F.fn 187) (hro : F.round = none) (hn : 1 ≤ n) (lp Bs n₀ : Nat) (A : Option Addr) (c : Nat) (l : List (Int × Int)) (h8 : l.length ≤ 8) (J Jx : List (Fin l.length) → World → Prop)
    (hY : ∀ pre x W, J pre W → pre.length < l.length → YieldAt F (n - 1) Try.prog lp (encB l x) W fun e W' =>
      (e = .returned (.bool true) ∧ J (pre ++ [x]) W' ∧ KpB n₀ Bs W W') ∨ (e = .returned (.bool false) ∧ Jx (pre ++ [x]) W'))
    (W : World) (hBs : W.cell? ⟨Bs, 0, none⟩ = some (.slice A l.length c)) (hS : Spots W n₀ A l.length l) (h0 : J [] W) :
    CallsIn F n Try.prog 187 #[.func (.yield lp) #[] #[], .pointer (some ⟨Bs, 0, none⟩)] W fun e W' => (∃ v, e = .returned v) ∧
      ((∃ ys : List (Fin l.length), ys.map Fin.val = bk l.length l.length ∧ J ys W') ∨ (∃ pre, True ∧ Jx pre W')) := by
  refine callsIn_of_wp Try.func187 rfl hf ?_ hro
  simp only [Try.ntmps187, List.size_toArray, List.length_cons, List.length_nil, Nat.reduceAdd, Nat.reduceSub, Array.replicate_succ, Array.replicate_zero, List.push_toArray, List.append_toArray, List.nil_append, List.cons_append]
  have HS := Lib.hid hS
  have HK0 : Hid (KpB n₀ Bs W W) := Lib.hid ⟨Below.refl _ _, rfl⟩
  have HJ0 := Lib.hid (show (([] : List (Fin l.length)).map Fin.val = bk l.length 0 ∧ J [] W) from ⟨rfl, h0⟩)
  clear hS h0
  gi_wp2
  gi_loopw [3] (fun i wr => ∃ k : Nat, k ≤ l.length ∧ i = .int .i64 ((l.length : Int) - 1 - k) ∧ Hid (∃ pre : List (Fin l.length), pre.map Fin.val = bk l.length k ∧ J pre wr) ∧ Hid (KpB n₀ Bs W wr))
    (fun i _ => (intOf i + 1).toNat)
  case atStart => exact ⟨0, Nat.zero_le _, by simp, Lib.hid ⟨[], HJ0.out⟩, HK0⟩
  case round =>
    obtain ⟨k, hk, rfl, hJ, hK⟩ := hrel
    have hbs := (cell_heap hK.out.2 0).trans hBs
    by_cases hlt : k < l.length
    · obtain ⟨pre, hp, hj⟩ := hJ.out
      have hpl : pre.length = k := by have := congrArg List.length hp; rw [bk_len] at this; simpa using this
      obtain ⟨i, hi⟩ : ∃ i : Nat, (l.length : Int) - 1 - k = i ∧ i < l.length ∧ l.length - 1 - k = i := ⟨l.length - 1 - k, by omega, by omega, rfl⟩
      obtain ⟨hi, hil, hin⟩ := hi
      obtain ⟨b, o, x, y, rfl, hbl, hlk, hc0, hc1⟩ := (HS.out.on hK.out.1 (Nat.le_refl _)).2 i hil
      obtain ⟨fn, tmps, assign, body, hy, hR⟩ := hY pre ⟨i, hil⟩ wr hj (by omega)
      dsimp only [encB] at hy
      rw [depAt_at hlk, spdAt_at hlk] at hy
      have HP : Hid ((pre ++ [(⟨i, hil⟩ : Fin l.length)]).map Fin.val = bk l.length (k + 1)) := by unfold Hid; rw [List.map_append, hp, bk_succ, hin]; simp
      rw [hi]
      clear hp hj hJ hlk
      gi_wp2
      refine hR.mono ?_
      rintro e W3 (⟨rfl, hJ3, hk3⟩ | ⟨rfl, hJx3⟩)
      · have HK3 := Lib.hid (kpB_t hK.out hk3)
        have HJ3 := Lib.hid hJ3
        clear hJ3 hk3
        gi_wp2
        go_roundw
        case rel => exact ⟨k + 1, by omega, by congr 1; omega, Lib.hid ⟨_, HP.out, HJ3.out⟩, HK3⟩
        case measure => simp [intOf]; try omega
      · gi_wp2
        refine bodyPost_ret (results_none rfl _ _ _) rfl ?_
        exact ⟨⟨_, rfl⟩, .inr ⟨_, trivial, hJx3⟩⟩
    · obtain rfl : k = l.length := by omega
      obtain ⟨pre, hp, hj⟩ := hJ.out
      rw [show (l.length : Int) - 1 - l.length = -1 by omega]
      gi_wp2
      go_end0
      exact ⟨⟨_, rfl⟩, .inl ⟨pre, hp, hj⟩⟩
set_option maxHeartbeats 1000000 in
theorem back_in (F : Fence) (n : Nat) (hf : F.fn 176) (hro : F.round = none) (a : Option Addr) (len cap : Nat) (w : World) :
    CallsIn F n Try.prog 176 #[.slice a len cap] w fun e w' => e = .returned (.func (.func 187) #[] #[.pointer (some ⟨w.heap.size, 0, none⟩)]) ∧ w' = w.alloc (.cells #[.slice a len cap] 62) := by
  refine callsIn_of_wp Try.func176 rfl hf ?_ hro
  simp only [Try.ntmps176, List.size_toArray, List.length_cons, List.length_nil, Nat.reduceAdd, Nat.reduceSub, Array.replicate_succ, Array.replicate_zero, List.push_toArray, List.append_toArray, List.nil_append, List.cons_append]
  gi_wp2
  go_ret
  exact ⟨rfl, rfl⟩
theorem back_stops (F : Fence) (n : Nat) (hf : F.fn 187) (hro : F.round = none) (hn : 1 ≤ n) (Bs n₀ : Nat) (A : Option Addr) (c : Nat) (l : List (Int × Int)) (h8 : l.length ≤ 8) (w : World) (hBs : Bs < w.heap.size) (hn₀ : n₀ ≤ w.heap.size)
    (hc : w.cell? ⟨Bs, 0, none⟩ = some (.slice A l.length c)) (hS : Spots w n₀ A l.length l) :
    SeqStopsK F n Try.prog 187 #[.pointer (some ⟨Bs, 0, none⟩)] (encB l) (KpB n₀ Bs) (fun ys => ys.map Fin.val = bk l.length l.length) (fun _ => True) l.length w := fun lp J Jx W hW _ _ hY h0 =>
  back1_in F n hf hro hn lp Bs n₀ A c l h8 J Jx hY W ((hW.cell (p := ⟨Bs, 0, none⟩) hBs).trans hc) (hS.on hW hn₀) h0

/-! ### impl.sumAbove -/
theorem cells_kept {W W' : World} {row : Option Nat} {a : Addr} {v : Value} (h : W.cell? a = some v) (hg : W.grownBy W' row) (hr : ∀ r, row = some r → ∃ o : Obj, W.heap[r]? = some o ∧ o.isCells = false) : W'.cell? a = some v := cell_kept h hg hr
theorem part_tv (t s : Int) (h1 : 0 ≤ t) (h2 : t ≤ 20001) (h3 : 14000 ≤ s) (h4 : s ≤ 16000) : 0 ≤ t * 100000 / s ∧ t * 100000 / s ≤ 142865 := by
  refine ⟨Int.ediv_nonneg (by omega) (by omega), ?_⟩
  have : t * 100000 / s < 142866 := Int.ediv_lt_of_lt_mul (by omega) (by omega)
  omega
theorem part_mn (t s : Int) (h1 : 0 ≤ t) (h2 : t ≤ 20001) (h3 : 14000 ≤ s) (h4 : s ≤ 16000) : 0 ≤ t * s ∧ t * s ≤ 320016000 := by
  have a1 : 0 ≤ t * s := Int.mul_nonneg (by omega) (by omega)
  have a2 : t * s ≤ t * 16000 := Int.mul_le_mul_of_nonneg_left h4 h1
  omega
set_option maxHeartbeats 400000 in
theorem part_mn_any (t s : Int) (w : World) (h1 : 0 ≤ t) (h2 : t ≤ 20001) (h3 : 14000 ≤ s) (h4 : s ≤ 16000) :
    Calls Try.prog 128 #[.int .i64 t, .int .i64 s] w fun e w' => e = .returned (.int .i64 (t * s)) ∧ w = w' := by
  have hb := part_mn t s h1 h2 h3 h4
  obtain ⟨hb1, hb2⟩ := hb
  go_enter Try.func128, Try.ntmps128
  go_wp2_with fail
  go_ret
  exact ⟨rfl, rfl⟩
set_option maxRecDepth 100000 in
set_option maxHeartbeats 6400000 in
theorem sum_mn (A : Option Addr) (n c : Nat) (l : List (Int × Int)) (d : Int) (w : World) (hs : Spots w w.heap.size A n l) (hl : Lays l) (hd : 0 ≤ d) (hd' : d ≤ 20001) :
    Calls Try.prog 127 #[.slice A n c, .int .i64 d, .func (.func 128) #[] #[]] w fun e w' => e = .returned (.int .i64 (sgK (fun t s => t * s) l d l.length)) ∧ Below w.heap.size w w' := by
  obtain rfl := hs.1
  have h8 := hl.max
  have hmx : Try.prog.follows .mixedOrders = true := by kernel_rfl
  refine (callsIn_wide (n := 9)).1 ?_
  refine callsIn_of_wp_marks Try.func127 rfl trivial ?_ rfl
  simp only [Try.ntmps127, List.size_toArray, List.length_cons, List.length_nil, Nat.reduceAdd, Nat.reduceSub, Array.replicate_succ, Array.replicate_zero, List.push_toArray, List.append_toArray, List.nil_append, List.cons_append]
  gi_wp2_with (refine ⟨trivial, ?_⟩; gi_at_call 176; refine (back_in Fence.wide _ trivial rfl _ _ _ _).mono ?_; rintro e w' ⟨rfl, rfl⟩)
  have bP := (((Boxed.new w 105 (.func (.func 128) #[] #[])).alloc (.cells #[.int .i64 0] 3)).alloc (.cells #[.int .i64 d] 3)).alloc (.cells #[.slice A l.length c] 62)
  have bS := ((Boxed.new (w.alloc (.cells #[.func (.func 128) #[] #[]] 105)) 3 (.int .i64 0)).alloc (.cells #[.int .i64 d] 3)).alloc (.cells #[.slice A l.length c] 62)
  have bD := (Boxed.new ((w.alloc (.cells #[.func (.func 128) #[] #[]] 105)).alloc (.cells #[.int .i64 0] 3)) 3 (.int .i64 d)).alloc (.cells #[.slice A l.length c] 62)
  have bB := Boxed.new (((w.alloc (.cells #[.func (.func 128) #[] #[]] 105)).alloc (.cells #[.int .i64 0] 3)).alloc (.cells #[.int .i64 d] 3)) 62 (.slice A l.length c)
  simp only [World.size_alloc] at bS bD bB
  have hB0 : Below w.heap.size w ((((w.alloc (.cells #[.func (.func 128) #[] #[]] 105)).alloc (.cells #[.int .i64 0] 3)).alloc (.cells #[.int .i64 d] 3)).alloc (.cells #[.slice A l.length c] 62)) := ((((Below.refl _ w).alloc (Nat.le_refl _) _).alloc (by simp) _).alloc (by simp; omega) _).alloc (by simp; omega) _
  have hsz : ((((w.alloc (.cells #[.func (.func 128) #[] #[]] 105)).alloc (.cells #[.int .i64 0] 3)).alloc (.cells #[.int .i64 d] 3)).alloc (.cells #[.slice A l.length c] 62)).heap.size = w.heap.size + 4 := by simp
  obtain ⟨W0, hW0⟩ : ∃ W0, (((w.alloc (.cells #[.func (.func 128) #[] #[]] 105)).alloc (.cells #[.int .i64 0] 3)).alloc (.cells #[.int .i64 d] 3)).alloc (.cells #[.slice A l.length c] 62) = W0 := ⟨_, rfl⟩
  rw [hW0] at bP bS bD bB hB0 hsz
  try rw [hW0]
  clear hW0
  refine wpIn_rangeFunc_ownH rfl (by omega) (gf := 187) (lb := #[.pointer (some ⟨w.heap.size + 1 + 1 + 1, 0, none⟩)]) rfl trivial (enters_of Try.func187 (by kernel_rfl) rfl)
    (back_stops Fence.wide _ trivial rfl (by omega) (w.heap.size + 1 + 1 + 1) w.heap.size A c l h8 W0 (by omega) (by omega) bB.cell (hs.on hB0 (Nat.le_refl _))) kpB_t (kpB_b (by omega) (by omega)) (Below.refl _ _) (fun _ => rfl)
    (fun pre W => ((Boxed W (w.heap.size + 1) 3 (.int .i64 (sgF (fun t s => t * s) l d (pre.map Fin.val)).1) ∧ Boxed W (w.heap.size + 1 + 1) 3 (.int .i64 (sgF (fun t s => t * s) l d (pre.map Fin.val)).2)) ∧ Boxed W w.heap.size 105 (.func (.func 128) #[] #[]) ∧ Boxed W (w.heap.size + 1 + 1 + 1) 62 (.slice A l.length c)) ∧ Below w.heap.size w W)
    (fun _ _ _ => False)
    (OwnFrom.and (OwnFrom.and (OwnFrom.and (Own.from (boxed_own _ _ _) _) (Own.from (boxed_own _ _ _) _)) (OwnFrom.and (Own.from (boxed_own _ _ _) _) (Own.from (boxed_own _ _ _) _))) (ownFrom_below (Nat.le_refl _) (by omega)))
    (fun _ _ _ _ _ hs _ _ => hs)
    ⟨⟨⟨bS, bD⟩, bP, bB⟩, hB0⟩
    (fun x a' W => ∃ Bx, w.heap.size + 1 + 1 + 1 < Bx ∧ (W.cell? ⟨Bx, 0, none⟩ = some (.int .i64 (depAt l x.1)) ∧ W.cell? ⟨Bx, 1, none⟩ = some (.int .i64 (spdAt l x.1))) ∧ a' = { tmps := #[.slice A l.length c, .int .i64 d, .func (.func 128) #[] #[], undef, undef, .pointer (some ⟨w.heap.size, 0, none⟩), .int .i64 0, .pointer (some ⟨w.heap.size + 1, 0, none⟩), .pointer (some ⟨w.heap.size + 1 + 1, 0, none⟩), undef, .pointer (some ⟨Bx, 0, none⟩), .int .i64 d, .slice A l.length c, .func (.func 187) #[] #[.pointer (some ⟨w.heap.size + 1 + 1 + 1, 0, none⟩)], .int .i64 (x.1 : Int), .agg #[.int .i64 (depAt l x.1), .int .i64 (spdAt l x.1)], undef, undef, undef, undef, undef, undef, undef, undef, undef, undef, undef, undef, undef, undef, undef, undef, undef], defers := [] })
    (fun x a' _ X Y row hs hg hr => by obtain ⟨Bx, h1, ⟨h2, h2'⟩, h3⟩ := hs; exact ⟨Bx, h1, ⟨cells_kept h2 hg (fun r e => (hr r e).2), cells_kept h2' hg (fun r e => (hr r e).2)⟩, h3⟩)
    ?assign ?body ?done ?stop
  case assign =>
    rintro lp pre x W K ⟨⟨⟨bS1, bD1⟩, bP1, bB1⟩, hB1⟩ hK
    gi_wp2
    exact hK _ _ ((KeepsOthers.alloc _ _).from _) ⟨(Below.refl _ W).alloc hB1.size _, Below.heap_alloc W _ _ (bB1.lt)⟩ ⟨⟨⟨bS1.alloc _, bD1.alloc _⟩, bP1.alloc _, bB1.alloc _⟩, hB1.alloc hB1.size _⟩ ⟨W.heap.size, bB1.lt, ⟨World.cell?_alloc_new _ _ _ _, World.cell?_alloc_new _ _ _ _⟩, rfl⟩
  case body =>
    rintro lp pre x a' W hlp ⟨r, hr⟩ ⟨⟨⟨bS1, bD1⟩, bP1, bB1⟩, hB1⟩ ⟨Bx, hBx, ⟨bX0, bX1⟩, rfl⟩ hlt
    obtain ⟨⟨q1, q2⟩, q3, q4⟩ : (0 ≤ (sgF (fun t s => t * s) l d (pre.map Fin.val)).1 ∧ (sgF (fun t s => t * s) l d (pre.map Fin.val)).1 ≤ 320016000 * 8) ∧ 0 ≤ (sgF (fun t s => t * s) l d (pre.map Fin.val)).2 ∧ (sgF (fun t s => t * s) l d (pre.map Fin.val)).2 ≤ d := by
      have h := sg_inv (fun t s => t * s) 320016000 hl hd' part_mn (by decide) (pre.map Fin.val) (0, d) 0 (by simp) (by simp) hd (Int.le_refl _) (fun i hi => by obtain ⟨z, _, rfl⟩ := List.mem_map.1 hi; exact z.2)
      have e : (((0 + (pre.map Fin.val).length : Nat) : Int)) ≤ 8 := by simp; omega
      refine ⟨⟨h.1, ?_⟩, h.2.2⟩
      have := h.2.1
      have h3 : (320016000 : Int) * ((0 + (pre.map Fin.val).length : Nat) : Int) ≤ 320016000 * 8 := Int.mul_le_mul_of_nonneg_left e (by decide)
      exact Int.le_trans this h3
    have hsn := sgF_snoc (fun t s => t * s) l d (pre.map Fin.val) x.1
    have hmap : (pre ++ [x]).map Fin.val = pre.map Fin.val ++ [x.1] := by simp
    obtain ⟨P0, hP0⟩ : ∃ P, sgF (fun t s => t * s) l d (pre.map Fin.val) = P := ⟨_, rfl⟩
    rw [hP0] at hsn bS1 bD1 q1 q2 q3 q4
    obtain ⟨S, Bt⟩ := P0
    have hx := hl.dep x.1 x.2
    have hy := hl.spd x.1 x.2
    obtain ⟨X, hX⟩ : ∃ X, depAt l x.1 = X := ⟨_, rfl⟩
    obtain ⟨Y, hY⟩ : ∃ Y, spdAt l x.1 = Y := ⟨_, rfl⟩
    rw [hX] at hx bX0 ⊢
    rw [hY] at hy bX1 ⊢
    rw [sgStep, hX, hY] at hsn
    obtain ⟨hx1, hx2⟩ := hx
    obtain ⟨hy1, hy2⟩ := hy
    simp only at bS1 bD1 q1 q2 q3 q4 hsn
    have cS := bS1.cell
    have cD := bD1.cell
    have cP := bP1.cell
    have fS := bS1.frozen
    have fD := bD1.frozen
    have hd0 : 1 ≤ 9 - 1 - 1 := by omega
    have HSn := Lib.hid hsn
    have HB1 := Lib.hid hB1
    have hn1 : Bx ≠ w.heap.size + 1 := by omega
    clear hsn hX hY hB1
    by_cases hlt2 : X < Bt
    · have hpt := part_mn (Bt - X) Y (by omega) (by omega) hy1 hy2
      obtain ⟨hp1, hp2⟩ := hpt
      have HE : Hid (sgF (fun t s => t * s) l d (pre.map Fin.val ++ [x.1]) = (S + (Bt - X) * Y, X)) := by unfold Hid; rw [HSn.out, if_pos hlt2]
      clear HSn
      have hw1 : IntKind.i64.wrap (Bt - X) = Bt - X := IntWalk.i64_in _ (by omega)
      have hw2 : IntKind.i64.wrap (S + (Bt - X) * Y) = S + (Bt - X) * Y := IntWalk.i64_in _ (by omega)
      gi_wp2
      have lc0 := lcell cS
      have lc1 := lcell cD
      have lc2 := lcell cP
      have lc3 := lcell bX0
      have lc4 := lcell bX1
      refine region_round (W := W) 9 [0, 1, 2, 3, 4, 5, 6, 7] [8] hmx (by kernel_rfl) (Below.refl _ _) (by kernel_rfl) (by rintro ⟨a, w, h⟩; exact h) (fun d _ _ _ _ h => by cases d <;> exact h) ?_
      simp only [picks, List.getElem?_cons_succ, List.getElem?_cons_zero, List.drop_succ_cons, List.drop_zero]
      repeat (go_big_quiet_step (fail))
      refine wpQuiet_nil ?_
      intro W3 hW1
      have HL : Hid (Below W.heap.size W W3) := by obtain ⟨x, rfl⟩ := hW1; exact Lib.hid x.below
      clear hW1 lc0 lc1 lc2 lc3 lc4
      simp only [wpMem]
      refine wpOp_step rfl (fun K hK => ?_)
      rw [if_pos (by rfl)]
      go_simp
      refine (part_mn_any _ _ _ (by omega) (by omega) hy1 hy2).mono ?_
      rintro e w4 ⟨rfl, rfl⟩
      refine hK _ _ ⟨⟨⟨_, HL.out⟩, rfl⟩, ?_⟩
      clear hK K
      have bS3 : Boxed W3 _ _ _ := (HL.out.block _ bS1.lt).trans bS1
      have bD3 : Boxed W3 _ _ _ := (HL.out.block _ bD1.lt).trans bD1
      have bP3 : Boxed W3 _ _ _ := (HL.out.block _ bP1.lt).trans bP1
      have bB3 : Boxed W3 _ _ _ := (HL.out.block _ bB1.lt).trans bB1
      have cS3 := bS3.cell
      have cD3 := bD3.cell
      have fS3 := bS3.frozen
      have fD3 := bD3.frozen
      replace bX0 := cell_next HL.out bX0
      replace bX1 := cell_next HL.out bX1
      have HB3 := Lib.hid (bthen HB1.out HL.out HB1.out.size)
      have HKF : Hid (KeepsFrom W0.heap.size W W3) := Lib.hid ⟨HL.out.size, fun k o _ hk _ => (HL.out.block k (Array.getElem?_eq_some_iff.1 hk).1).trans hk⟩
      have HBW : Hid (Below w.heap.size W W3) := Lib.hid (HL.out.mono HB1.out.size)
      clear cS cD cP fS fD
      go_wp2_with fail
      gi_wp2
      refine ⟨HKF.out.trans (((KeepsOthers.setCell _ _ _).trans (KeepsOthers.setCell _ _ _)).from _), ⟨(HBW.out.setCell (p := ⟨w.heap.size + 1, 0, none⟩) (by simp) _).setCell (p := ⟨w.heap.size + 1 + 1, 0, none⟩) (by simp; omega) _, ?_⟩, ?_⟩
      · exact (((bB3.other (by omega) _).other (by omega) _) : Boxed _ _ _ _).trans (show W.heap[_]? = _ from bB1).symm
      · simp only [hmap, HE.out]
        exact ⟨⟨⟨(bS3.set _).other (by omega) _, (bD3.other (by omega) _).set _⟩, (bP3.other (by omega) _).other (by omega) _, (bB3.other (by omega) _).other (by omega) _⟩, (HB3.out.setCell (p := ⟨w.heap.size + 1, 0, none⟩) (by simp) _).setCell (p := ⟨w.heap.size + 1 + 1, 0, none⟩) (by simp; omega) _⟩
    · have HE : Hid (sgF (fun t s => t * s) l d (pre.map Fin.val ++ [x.1]) = (S, Bt)) := by unfold Hid; rw [HSn.out, if_neg hlt2]
      clear HSn
      gi_wp2
      refine ⟨KeepsFrom.refl _ _, ⟨Below.refl _ _, rfl⟩, ?_⟩
      simp only [hmap, HE.out]
      exact ⟨⟨⟨bS1, bD1⟩, bP1, bB1⟩, HB1.out⟩
  case done =>
    rintro D zs W hD hz ⟨⟨⟨bS1, bD1⟩, bP1, bB1⟩, hB1⟩ hK
    have hfin := sg_all (fun t s => t * s) (by intro s; simp) hl hd (Nat.le_refl l.length)
    rw [hz, hfin, Nat.sub_self] at bS1
    have cS := bS1.cell
    simp only [sgK, Int.sub_zero] at cS
    gi_wp2
    refine ⟨by simp, .inl ⟨_, _, rfl, run_takeDeferred hK, ?_⟩⟩
    exact ⟨_, results_tmp rfl _ _ _, rfl, hB1.trans (belowK_b (w := w) (Nat.le_refl _) W D _ _ (by omega) hK rfl rfl)⟩
  case stop =>
    rintro D cc pre W _ _ h _
    exact h.elim
end Go.Proofs.Ytdmnkmdlochogab
