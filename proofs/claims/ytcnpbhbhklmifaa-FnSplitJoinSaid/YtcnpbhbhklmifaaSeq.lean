/-
  The iterator of impl.piecesOf, slices.AppendSeq and slices.Collect at it, and impl.SplitString over this translation. Conditions: stated at each theorem.
-/
import Derived.RangeFuncBox
import Derived.RangeFuncNested
import Derived.RangeFuncBound
import Derived.RangeFuncCalls
import Derived.RangeFuncLeaves
import Derived.Shelf.Abstract
import Derived.Shelf.RegionOpen
import Derived.WalkKit
import Derived.OwnWalkIn
import Derived.TacticsInMore
import Derived.LoopNIn
import Derived.LoopIn
import Derived.Sort.LoopGhostIn
import Derived.Sort.QuietIn
import Derived.Maps.AppendAt
import Derived.Test.YtcnpbhbhklmifaaRowsOf
namespace Go.Proofs.Ytcnpbhbhklmifaa
open Go.RowKit Go.Sort Go.Shelf

attribute [local go_sem] Oper.semAt_some

/-! ### The parts from the front -/
theorem step_done (b : UInt8) (done d2 : List (List UInt8)) (cur : List UInt8) (c : UInt8) : splitStep b (done ++ d2, cur) c = (done ++ (splitStep b (d2, cur) c).1, (splitStep b (d2, cur) c).2) := by
  unfold splitStep; split <;> simp
theorem fold_done (b : UInt8) (l : List UInt8) : ∀ (done d2 : List (List UInt8)) (cur : List UInt8), l.foldl (splitStep b) (done ++ d2, cur) = (done ++ (l.foldl (splitStep b) (d2, cur)).1, (l.foldl (splitStep b) (d2, cur)).2) := by
  induction l with
  | nil => intro done d2 cur; rfl
  | cons c l ih =>
    intro done d2 cur
    simp only [List.foldl_cons]
    rw [step_done, ih]
theorem splitL_one (b : UInt8) (l : List UInt8) (h : b ∉ l) : splitL b l = [l] := by
  unfold splitL splitP
  rw [(split_head b l []).1 h]
  simp
theorem splitL_cut (b : UInt8) (l1 l2 : List UInt8) (h : b ∉ l1) : splitL b (l1 ++ b :: l2) = l1 :: splitL b l2 := by
  unfold splitL splitP
  rw [List.foldl_append, (split_head b l1 []).1 h, List.foldl_cons]
  have e : splitStep b ([], [] ++ l1) b = ([l1] ++ [], []) := by simp [splitStep]
  rw [e, fold_done]
  simp
/-- The parts as texts. -/
def partsB (b : UInt8) (s : ByteArray) : List ByteArray := (splitL b s.data.toList).map fun p => ⟨p.toArray⟩
theorem ba_list (s : ByteArray) : (⟨s.data.toList.toArray⟩ : ByteArray) = s := by
  apply ByteArray.ext; simp
theorem partsB_one (b : UInt8) (s : ByteArray) (h : b ∉ s.data.toList) : partsB b s = [s] := by
  unfold partsB
  rw [splitL_one b _ h]
  simp
theorem partsB_cut (b : UInt8) (s : ByteArray) (k : Nat) (hk : k < s.size) (h : s[k] = b) (hno : b ∉ s.data.toList.take k) : partsB b s = s.extract 0 k :: partsB b (s.extract (k + 1) s.size) := by
  have h1 : s.data.toList = s.data.toList.take k ++ b :: s.data.toList.drop (k + 1) := by
    have h2 := take_snoc s k hk
    rw [h] at h2
    conv => lhs; rw [← List.take_append_drop (k + 1) s.data.toList, h2]
    simp
  unfold partsB
  rw [Lib.extract_to_end]
  rw [h1, splitL_cut b _ _ hno]
  have e : (⟨(s.data.toList.take k).toArray⟩ : ByteArray) = s.extract 0 k := by
    apply ByteArray.ext
    apply Array.toList_inj.1
    rw [Lib.extract_data]
    simp
  have e2 : (s.data.toList.take k ++ b :: s.data.toList.drop (k + 1)).drop (k + 1) = s.data.toList.drop (k + 1) := by rw [← h1]
  rw [e2, List.map_cons, e]
theorem partsB_ne (b : UInt8) (s : ByteArray) : 0 < (partsB b s).length := by simp [partsB, splitL]

/-- A scope, inside the fence that asks nothing. -/
theorem scope_wide {n : Nat} {P : Program} {c : Code} {Q : Exit → Act → World → Prop} {a : Act} {w : World} (h : c.wpIn Fence.wide n P (Exit.noGoto Q) a w) : (Code.scope c).wpIn Fence.wide n P Q a w :=
  wpIn_wide.2 (wp_scope_straight (wpIn_wide.1 h))
theorem grownBy_drewN (W : World) (k : Nat) : W.grownBy (W.drewN k) none := ⟨rfl, rfl, rfl, Nat.le_refl _, fun _ _ _ => rfl⟩

set_option maxRecDepth 100000 in
set_option maxHeartbeats 1000000 in
theorem pieces1_in (n : Nat) (hn : 1 ≤ n) (l Bs Bb n₀ : Nat) (s : ByteArray) (b : UInt8) (J Jx : List ByteArray → World → Prop)
    (hY : ∀ pre x W, J pre W → pre.length < (partsB b s).length → YieldAt Fence.wide (n - 1) Try.prog l #[.string x] W fun e W' =>
      (e = .returned (.bool true) ∧ J (pre ++ [x]) W' ∧ Below n₀ W W') ∨ (e = .returned (.bool false) ∧ Jx (pre ++ [x]) W'))
    (W : World) (hJ : AbidesFrom W.heap.size J) (hs : W.cell? ⟨Bs, 0, none⟩ = some (.string s)) (hb : W.cell? ⟨Bb, 0, none⟩ = some (.int .u8 (b.toNat : Int))) (hBb : Bb < n₀) (hsz : s.size ≤ 4000) (h0 : J [] W) :
    CallsIn Fence.wide n Try.prog 38 #[.func (.yield l) #[] #[], .pointer (some ⟨Bs, 0, none⟩), .pointer (some ⟨Bb, 0, none⟩)] W fun e W' => (∃ v, e = .returned v) ∧
      ((∃ ys, ys = partsB b s ∧ J ys W') ∨ (∃ pre, pre <+: partsB b s ∧ Jx pre W')) := by
  refine callsIn_of_wp Try.func38 rfl trivial ?_ rfl
  simp only [Try.ntmps38, List.size_toArray, List.length_cons, List.length_nil, Nat.reduceAdd, Nat.reduceSub, Array.replicate_succ, Array.replicate_zero, List.push_toArray, List.append_toArray, List.nil_append, List.cons_append]
  refine scope_wide ?_
  have HY := Lib.hid hY
  have HJ := Lib.hid hJ
  clear hY hJ
  gi_wp2
  refine wpIn_label ?_
  gi_wp2
  gi_loopg [4] s.size (fun g r wr => ∃ (pre : List ByteArray) (r0 : ByteArray), r = .string r0 ∧ r0.size = g ∧ r0.size ≤ 4000 ∧ Hid (partsB b s = pre ++ partsB b r0) ∧ Hid (J pre wr) ∧ wr.cell? ⟨Bb, 0, none⟩ = some (.int .u8 (b.toNat : Int)))
  case atStart => exact ⟨[], s, rfl, rfl, hsz, rfl, h0, hb⟩
  case round =>
    obtain ⟨pre, r0, rfl, hg, hr0, hparts, hJpre, hbox⟩ := hrel
    obtain ⟨wo, hwo⟩ : ∃ wo : World, wo = wr := ⟨_, rfl⟩
    rw [← hwo] at hJpre hbox ⊢
    clear hwo
    have HG := Lib.hid hg
    clear hg
    gi_wp2
    gi_loopw [4, 9] (fun r i wr => ∃ k : Nat, k ≤ r0.size ∧ r = .string r0 ∧ i = .int .i64 k ∧ Hid (b ∉ r0.data.toList.take k) ∧ Hid (J pre wr) ∧ wr.cell? ⟨Bb, 0, none⟩ = some (.int .u8 (b.toNat : Int))) (fun _ i _ => r0.size - (intOf i).toNat)
    case atStart => exact ⟨0, Nat.zero_le _, rfl, rfl, by simp [Hid], hJpre, hbox⟩
    case round =>
      obtain ⟨k, hk, rfl, rfl, hno, hJk, hboxk⟩ := hrel
      clear hbox
      by_cases hlt : k < r0.size
      · by_cases he : r0[k] = b
        · have hd : ((r0[k].toNat : Int) == (b.toNat : Int)) = true := by rw [he]; simp
          have HC := Lib.hid (partsB_cut b r0 k hlt he hno.out)
          clear he
          gi_wp2_with fail
          gi_quiet (fail)
          have hJ2 := Lib.hid (HJ.out pre wr (wr.drewN nq) none hJk.out (grownBy_drewN _ _) (fun r e => by cases e))
          have hlen : pre.length < (partsB b s).length := by
            have h1 := hparts.out
            have h2 := partsB_ne b r0
            rw [h1, List.length_append]; omega
          obtain ⟨fn, tmps, assign, body, hy, hR⟩ := HY.out pre (r0.extract 0 k) (wr.drewN nq) hJ2.out hlen
          have HR := Lib.hid hR
          clear hR hlen
          gi_wp2
          refine HR.out.mono ?_
          rintro e W3 (⟨rfl, hJ3, hk3⟩ | ⟨rfl, hJx3⟩)
          · have hbox3 := (hk3.cell (p := ⟨Bb, 0, none⟩) hBb).trans hboxk
            have HJ3 := Lib.hid hJ3
            clear hJ3 hk3 hy
            gi_wp2
            go_roundg (r0.size - (k + 1))
            case measure => have := HG.out; omega
            case rel => exact ⟨pre ++ [r0.extract 0 k], r0.extract (k + 1) r0.size, rfl, by rw [ByteArray.size_extract]; omega, by rw [ByteArray.size_extract]; omega, by unfold Hid; rw [hparts.out, HC.out, List.append_assoc]; rfl, HJ3, hbox3⟩
          · have HX := Lib.hid hJx3
            clear hJx3 hy
            gi_wp2
            first | rw [Exit.noGoto_ret] | skip
            refine bodyPost_ret (results_none rfl _ _ _) rfl ?_
            exact ⟨⟨_, rfl⟩, .inr ⟨pre ++ [r0.extract 0 k], ⟨partsB b (r0.extract (k + 1) r0.size), by rw [hparts.out, HC.out, List.append_assoc]; rfl⟩, HX.out⟩⟩
        · have hd : ((r0[k].toNat : Int) == (b.toNat : Int)) = false := by
            have : r0[k].toNat ≠ b.toNat := fun e => he (UInt8.toNat_inj.1 e)
            exact beq_eq_false_iff_ne.2 (by omega)
          have HM : Hid (b ∉ r0.data.toList.take (k + 1)) := by
            rw [take_snoc r0 k hlt]
            intro hm
            rcases List.mem_append.1 hm with h | h
            · exact hno.out h
            · exact he (List.mem_singleton.1 h).symm
          clear he
          gi_wp2_with fail
          gi_quiet (fail)
          have hJ2 := Lib.hid (HJ.out pre wr (wr.drewN nq) none hJk.out (grownBy_drewN _ _) (fun r e => by cases e))
          gi_wp2
          go_roundw
          case rel => exact ⟨k + 1, by omega, rfl, by go_num, HM, hJ2, hboxk⟩
          case measure => simp [intOf]; omega
      · obtain rfl : k = r0.size := by omega
        have HO : Hid (partsB b r0 = [r0]) := partsB_one b r0 (by
          have h1 := hno.out
          rwa [List.take_of_length_le (by rw [Array.length_toList]; exact Nat.le_refl _)] at h1)
        have hlen : pre.length < (partsB b s).length := by
          have h1 := hparts.out
          have h2 := partsB_ne b r0
          rw [h1, List.length_append]; omega
        obtain ⟨fn, tmps, assign, body, hy, hR⟩ := HY.out pre r0 wr hJk.out hlen
        have HR := Lib.hid hR
        clear hR hlen
        gi_wp2
        refine HR.out.mono ?_
        rintro e W3 (⟨rfl, hJ3, hk3⟩ | ⟨rfl, hJx3⟩)
        · have HJ3 := Lib.hid hJ3
          clear hJ3 hk3 hy
          gi_wp2
          first | rw [Exit.noGoto_ret] | skip
          refine bodyPost_ret (results_none rfl _ _ _) rfl ?_
          exact ⟨⟨_, rfl⟩, .inl ⟨pre ++ [r0], by rw [hparts.out, HO.out], HJ3.out⟩⟩
        · have HX := Lib.hid hJx3
          clear hJx3 hy
          gi_wp2
          first | rw [Exit.noGoto_ret] | skip
          refine bodyPost_ret (results_none rfl _ _ _) rfl ?_
          exact ⟨⟨_, rfl⟩, .inr ⟨pre ++ [r0], ⟨[], by rw [hparts.out, HO.out]; simp⟩, HX.out⟩⟩

/-! ### slices.AppendSeq and slices.Collect -/
theorem pieces_stops (n : Nat) (hn : 1 ≤ n) (Bs Bb n₀ : Nat) (s : ByteArray) (b : UInt8) (w : World) (hBs : Bs < w.heap.size) (hBb : Bb < n₀) (hn₀ : n₀ ≤ w.heap.size) (hsz : s.size ≤ 4000)
    (hs : w.cell? ⟨Bs, 0, none⟩ = some (.string s)) (hb : w.cell? ⟨Bb, 0, none⟩ = some (.int .u8 (b.toNat : Int))) :
    SeqStopsK Fence.wide n Try.prog 38 #[.pointer (some ⟨Bs, 0, none⟩), .pointer (some ⟨Bb, 0, none⟩)] (fun x : ByteArray => #[Value.string x]) (Below n₀) (fun ys => ys = partsB b s) (fun pre => pre <+: partsB b s) (partsB b s).length w :=
  fun l J Jx W hW hJ _ hY h0 => pieces1_in n hn l Bs Bb n₀ s b J Jx hY W hJ ((hW.cell (p := ⟨Bs, 0, none⟩) hBs).trans hs) ((hW.cell (p := ⟨Bb, 0, none⟩) (Nat.lt_of_lt_of_le hBb hn₀)).trans hb) hBb hsz h0
theorem partsB_len (b : UInt8) (s : ByteArray) : (partsB b s).length ≤ s.size + 1 := by
  have h1 := splitP_len b s.data.toList ([], [])
  have h2 : s.data.toList.length = s.size := Array.length_toList
  simp only [partsB, List.length_map, splitL, splitP, List.length_append, List.length_cons, List.length_nil] at *
  omega

set_option maxRecDepth 100000 in
set_option maxHeartbeats 2000000 in
/-- slices.AppendSeq(nil, piecesOf(s, b)): a new row of the parts. -/
theorem append_in (n : Nat) (hn : 3 ≤ n) (Bs Bb : Nat) (s : ByteArray) (b : UInt8) (w : World) (hBs : Bs < w.heap.size) (hBb : Bb < w.heap.size) (hsz : s.size ≤ 4000)
    (hs : w.cell? ⟨Bs, 0, none⟩ = some (.string s)) (hb : w.cell? ⟨Bb, 0, none⟩ = some (.int .u8 (b.toNat : Int))) :
    CallsIn Fence.wide n Try.prog 37 #[.slice none 0 0, .func (.func 38) #[] #[.pointer (some ⟨Bs, 0, none⟩), .pointer (some ⟨Bb, 0, none⟩)]] w fun e W' =>
      ∃ v, e = .returned v ∧ W'.ownsRow w.heap.size 9 1 v (partsB b s).length ((partsB b s).map Value.string) ∧ Below w.heap.size w W' := by
  have h1 : 1 ≤ n := by omega
  have hN := partsB_len b s
  obtain ⟨i0, hi, hz0, hz1, hz2⟩ := info_parts info9
  refine callsIn_of_wp_marks Try.func37 rfl trivial ?_ rfl
  simp only [Try.ntmps37, List.size_toArray, List.length_cons, List.length_nil, Nat.reduceAdd, Nat.reduceSub, Array.replicate_succ, Array.replicate_zero, List.push_toArray, List.append_toArray, List.nil_append, List.cons_append]
  gi_wp2
  have bO := Boxed.new w 26 (.slice none 0 0)
  have hB0 : Below w.heap.size w (w.alloc (.cells #[.slice none 0 0] 26)) := (Below.refl _ w).alloc (Nat.le_refl _) _
  have hs0 := (hB0.cell (p := ⟨Bs, 0, none⟩) hBs).trans hs
  have hb0 := (hB0.cell (p := ⟨Bb, 0, none⟩) hBb).trans hb
  refine wpIn_rangeFunc_ownG rfl h1 (gf := 38) (lb := #[.pointer (some ⟨Bs, 0, none⟩), .pointer (some ⟨Bb, 0, none⟩)]) rfl trivial (enters_of Try.func38 (by kernel_rfl) rfl)
    (pieces_stops (n - 1) (by omega) Bs Bb w.heap.size s b _ (by simp; omega) hBb (by simp) hsz hs0 hb0) belowK_t (belowK_b (by simp)) (Below.refl _ _) (fun _ => rfl)
    (fun pre W => (∃ v, Boxed W w.heap.size 26 v ∧ W.ownsRow w.heap.size 9 1 v pre.length (pre.map Value.string) ∧ True) ∧ Below w.heap.size w W)
    (fun _ _ _ => False)
    (OwnFrom.and (Own.from (holdsRow_own w.heap.size w.heap.size 26 9 1 (fun pre : List ByteArray => pre.length) (fun pre => pre.map Value.string) (fun _ _ => True)) _) (ownFrom_below (Nat.le_refl _) (by simp)))
    (fun _ _ _ _ _ hs _ _ => hs)
    ⟨⟨_, bO, World.ownsRow_nil _ _ _ _, trivial⟩, hB0⟩
    (fun x => { tmps := #[.slice none 0 0, .func (.func 38) #[] #[.pointer (some ⟨Bs, 0, none⟩), .pointer (some ⟨Bb, 0, none⟩)], .pointer (some ⟨w.heap.size, 0, none⟩), undef, .slice none 0 0, .string x, .func (.func 38) #[] #[.pointer (some ⟨Bs, 0, none⟩), .pointer (some ⟨Bb, 0, none⟩)], .string x, undef, undef, undef, undef, undef], defers := [] }) ?assign ?body ?done ?stop
  case assign =>
    intro l x W K hK
    gi_wp2
    exact hK
  case body =>
    rintro l pre x W ⟨⟨v, hv, hrow, -⟩, hB⟩ hlt
    have hc := hv.cell
    gi_wp2_with (gi_at_builtin; refine wpListIn_append_own _ rfl _ _ 26 rfl w.heap.size 9 i0 (.string ⟨#[]⟩) 1 16 Try.underlying26 hi hz0 hz1 hz2 rfl (by decide) _ _ _ rfl (hrow.alloc _) ⟨W.heap.size, 0, none⟩ 1 1 [.string x] rfl rfl (cell_one_new _ _ _) (by simp [Value.oneCell']) (by unfold maxLen; omega) (by omega) (by have := hB.size; simp; omega) ?_; intro v' w1 hown' hgrow _; obtain ⟨g', cap', rfl⟩ := ownsRow_succ hown'; obtain ⟨hv1, hv2, hr2, hk2, hb2⟩ := hv.appended (by decide) hrow hB.size (Nat.le_refl _) hown' hgrow; have hc1 := hv1.cell; have hf1 := hv1.frozen)
    exact ⟨hk2.from _, hb2, ⟨_, hv2, by simpa using hr2, trivial⟩, hB.trans hb2⟩
  case done =>
    rintro D ys W hD rfl ⟨⟨v, hv, hrow, -⟩, hB⟩ hK
    have hc := hv.cell
    gi_wp2
    refine ⟨by simp, .inl ⟨_, _, rfl, run_takeDeferred hK, ?_⟩⟩
    exact ⟨_, results_tmp rfl _ _ _, v, rfl, ownsRow_putObj hrow _ hK rfl, hB.trans (belowK_b (w := w) (Nat.le_refl _) W D _ _ (by simp at hD; omega) hK rfl rfl)⟩
  case stop =>
    rintro D c pre W _ _ h _
    exact h.elim
end Go.Proofs.Ytcnpbhbhklmifaa
