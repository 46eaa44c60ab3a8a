/-
  Keep lists, the program: contracts of math/bits.Mul64, Mul, slices.Repeat at []int, impl.RejectDown over this translation. Conditions: stated at each theorem.
-/
import Derived.Test.YtjekmmekkfmplaaEg
import Derived.Laws.CopyOwn
import Derived.Test.YtjekmmekkfmplaaPw
import Derived.Test.YtjekmmekkfmplaaEm
namespace Go.Proofs.Ytjekmmekkfmplaa
open Go.RowKit
set_option linter.unusedVariables false

set_option maxHeartbeats 1600000 in
theorem mul64_v (n : Nat) (h : n ≤ 30) (w : World) :
    Calls Try.prog 88 #[.int .u64 1, .int .u64 n] w fun e w' => e = .returned (.tuple #[.int .u64 0, .int .u64 n]) ∧ w = w' := by
  go_enter Try.func88, Try.ntmps88
  go_wp2_with fail
  go_ret2
  refine ⟨?_, rfl⟩
  rcases (show n = 0 ∨ n = 1 ∨ n = 2 ∨ n = 3 ∨ n = 4 ∨ n = 5 ∨ n = 6 ∨ n = 7 ∨ n = 8 ∨ n = 9 ∨ n = 10 ∨ n = 11 ∨ n = 12 ∨ n = 13 ∨ n = 14 ∨ n = 15 ∨ n = 16 ∨ n = 17 ∨ n = 18 ∨ n = 19 ∨ n = 20 ∨ n = 21 ∨ n = 22 ∨ n = 23 ∨ n = 24 ∨ n = 25 ∨ n = 26 ∨ n = 27 ∨ n = 28 ∨ n = 29 ∨ n = 30 by omega) with rfl | rfl | rfl | rfl | rfl | rfl | rfl | rfl | rfl | rfl | rfl | rfl | rfl | rfl | rfl | rfl | rfl | rfl | rfl | rfl | rfl | rfl | rfl | rfl | rfl | rfl | rfl | rfl | rfl | rfl | rfl <;> rfl
set_option maxHeartbeats 1600000 in
theorem mul_v (n : Nat) (h : n ≤ 30) (w : World) :
    Calls Try.prog 83 #[.int .u64 1, .int .u64 n] w fun e w' => e = .returned (.tuple #[.int .u64 0, .int .u64 n]) ∧ w = w' := by
  go_enter Try.func83, Try.ntmps83
  go_wp2_with fail
  refine (mul64_v n h _).mono ?_
  rintro e w' ⟨rfl, rfl⟩
  go_wp2_with fail
  go_ret2
  exact ⟨rfl, rfl⟩
/-! ### slices.Repeat -/
def Rp (n k : Nat) (cur : List Value) : Prop := cur.length = n ∧ ∀ j, j < k → cur[j]? = some (.int .i64 1)
theorem rp_splice {n k c : Nat} {cur : List Value} (h : Rp n k cur) (hc : k + c ≤ n) : Rp n (k + c) (splice cur k (List.replicate c (.int .i64 1))) := by
  refine ⟨by rw [length_splice _ _ _ (by rw [List.length_replicate, h.1]; exact hc)]; exact h.1, fun j hj => ?_⟩
  unfold splice
  have h1 := h.1
  by_cases hk : j < k
  · rw [List.getElem?_append_left (by rw [List.length_take]; omega), List.getElem?_take, if_pos hk]
    exact h.2 j hk
  · rw [List.getElem?_append_right (by rw [List.length_take]; omega), List.length_take, List.getElem?_append_left (by rw [List.length_replicate]; omega), List.getElem?_replicate, if_pos (by omega)]
theorem rp_row {W : World} {s n : Nat} {cur : List Value} (hg : W.heap[s]? = some (.cells cur.toArray 3 (0, 0))) (h : Rp n n cur) : IFun W s (s + 1) (some ⟨s, 0, none⟩) n (fun _ => 1) := fun k hk => by
  refine ⟨s, rfl, Nat.le_refl _, Nat.lt_succ_self _, ?_, ?_⟩
  · have := h.2 k hk
    simp [World.cell?, hg, this]
  · simp [World.frozen?, hg]
def RepP (n : Nat) (w : World) (e : Ending) (w' : World) : Prop :=
  e = .returned (.slice (some ⟨w.heap.size, 0, none⟩) n n) ∧ IFun w' w.heap.size (w.heap.size + 1) (some ⟨w.heap.size, 0, none⟩) n (fun _ => 1) ∧ Below w.heap.size w w'
set_option maxRecDepth 20000 in
set_option maxHeartbeats 6400000 in
theorem repeat_v (g c n : Nat) (h1 : 1 ≤ n) (h30 : n ≤ 30) (w : World) (hg : w.cell? ⟨g, 0, none⟩ = some (.int .i64 1)) :
    Calls Try.prog 63 #[.slice (some ⟨g, 0, none⟩) 1 c, .int .i64 n] w (RepP n w) := by
  obtain ⟨i0, hi0, hz0, hz1, hz2⟩ := info_parts info3
  have hgl : g < w.heap.size := by
    rcases Nat.lt_or_ge g w.heap.size with h | h
    · exact h
    · simp [World.cell?, Array.getElem?_eq_none h] at hg
  go_enter Try.func63, Try.ntmps63
  go_wp2_with fail
  refine (mul_v n h30 _).mono ?_
  rintro e w' ⟨rfl, rfl⟩
  go_wp2_with (at_make; refine wpList_make_full _ rfl _ _ 24 rfl w.heap.size 3 i0 (.int .i64 0) 1 Try.underlying24 hi0 hz0 hz1 .i64 .i64 _ _ n rfl rfl rfl rfl (by rw [hz2]; omega) (by unfold maxLen; omega) (Nat.le_refl _) ?_; intro w1 hown hgrow)
  have hs1 : w.heap.size < w1.heap.size := (hown.lt _ rfl).2
  have hB1 : Below w.heap.size w w1 := (Below.refl w.heap.size w).grown hgrow (Nat.le_refl _) (fun k e => by cases e)
  obtain ⟨cur, hcg, hcs⟩ : ∃ cur : Array Value, w1.heap[w.heap.size]? = some (.cells cur 3 (0, 0)) ∧ cur.size = n := by
    rcases hown.2 with ⟨e, _⟩ | ⟨g', cap, cur, e, hb, hg9, a1, a2, a3, a4⟩
    · cases e
    · injection e with e1 e2 e3
      injection e1 with e1
      injection e1 with e1
      subst e1
      subst e3
      exact ⟨cur, hg9, by omega⟩
  have hg1 : w1.cell? ⟨g, 0, none⟩ = some (.int .i64 1) := (hB1.cell (p := ⟨g, 0, none⟩) hgl).trans hg
  rw [run_copy_row (P := Try.prog) w1 24 24 3 3 w.heap.size 0 n n ⟨g, 0, none⟩ 1 c cur 3 [.int .i64 1] Try.underlying24 (by kernel_rfl) hcg (by show 1 = min 1 n; omega) (fun j v hj => by
    rcases j with _ | j
    · simp at hj
      subst hj
      exact hg1
    · simp at hj) (by simp; omega) (fun u hu => by rw [List.mem_singleton.1 hu]; rfl)]
  obtain ⟨L2, hL2⟩ : ∃ L2, L2 = cur.toList.take 0 ++ [.int .i64 1] ++ cur.toList.drop (0 + [Value.int .i64 1].length) := ⟨_, rfl⟩
  have hR2 : Rp n 1 L2 := by
    rw [hL2]
    refine ⟨by simp; omega, fun j hj => ?_⟩
    obtain rfl : j = 0 := by omega
    rfl
  rw [← hL2]
  obtain ⟨w2, hw2⟩ : ∃ w2, w2 = w1.setRow w.heap.size L2.toArray := ⟨_, rfl⟩
  have hB2 : Below w.heap.size w w2 := by rw [hw2]; exact below_setRow hB1 (Nat.le_refl _) _
  have hG2 : w2.heap[w.heap.size]? = some (.cells L2.toArray 3 (0, 0)) := by rw [hw2]; exact setRow_heap w1 w.heap.size cur _ 3 (0, 0) hcg
  rw [← hw2]
  have HB2 := Lib.hid hB2
  have HG2 := Lib.hid hG2
  have HR2 := Lib.hid hR2
  clear hw2 hG2 hB2 hR2 hL2 hcg hcs hown hgrow hg1 hB1 hg
  go_wp2_with fail
  go_loopw [8] (fun q wr => ∃ (k : Nat) (cur : List Value), 1 ≤ k ∧ k ≤ n ∧ q = .int .i64 k ∧ Hid (wr.heap[w.heap.size]? = some (.cells cur.toArray 3 (0, 0))) ∧ Hid (Rp n k cur) ∧ Hid (Below w.heap.size w wr)) (fun q _ => n - (intOf q).toNat)
  case atStart => exact ⟨1, L2, Nat.le_refl _, h1, rfl, HG2, HR2, HB2⟩
  case round =>
    obtain ⟨k, cur, hk1, hk, rfl, hG, hR, hB⟩ := hrel
    by_cases hlt : k < n
    · obtain ⟨m, hm⟩ : ∃ m, min k (n - k) = m := ⟨_, rfl⟩
      have hm1 : 1 ≤ m := by omega
      have hmn : k + m ≤ n := by omega
      obtain ⟨X1, hX1⟩ : ∃ X1, X1 = List.replicate m (Value.int .i64 1) := ⟨_, rfl⟩
      have hXl : X1.length = m := by rw [hX1]; simp
      have HX1 := Lib.hid hX1
      have HS : Hid (∀ j v, X1[j]? = some v → wr.drew.cell? ((⟨w.heap.size, 0, none⟩ : Addr).add j) = some v) := Lib.hid fun j v hj => by
        rw [hX1, List.getElem?_replicate] at hj
        by_cases hjm : j < m
        · rw [if_pos hjm] at hj
          injection hj with hj
          subst hj
          have := hR.out.2 j (by omega)
          have e : (⟨w.heap.size, 0, none⟩ : Addr).add j = ⟨w.heap.size, j, none⟩ := by simp [Addr.add]; intro h; exact h.symm
          rw [e]
          show wr.cell? _ = _
          simp [World.cell?, show wr.heap[w.heap.size]? = _ from hG.out, this]
        · rw [if_neg hjm] at hj
          cases hj
      have HO : Hid (∀ u ∈ X1, u.oneCell' = true) := Lib.hid fun u hu => by rw [hX1] at hu; rw [List.eq_of_mem_replicate hu]; rfl
      have HGD : Hid (wr.drew.heap[w.heap.size]? = some (.cells cur.toArray 3 (0, 0))) := hG
      have HBD := Lib.hid hB.out.drew
      clear hX1
      go_wp2_with fail
      refine region_readsW (w := wr) 8 3 [0, 1, 2, 3, 4, 5, 6] (by kernel_rfl) (by kernel_rfl) rfl (fun d _ _ _ _ h => by cases d <;> exact h) ?_
      simp only [picks, List.getElem?_cons_succ, List.getElem?_cons_zero]
      repeat (go_big_quiet_step (fail))
      refine wpQuiet_nil ?_
      refine wpAnyN_one (i := 7) (by kernel_rfl) ?_
      refine wpOp_step rfl (fun K hK => ?_)
      refine step_copy_splice rfl (.tmp 41) (.tmp 44) 24 24 rfl 3 Try.underlying24 (by kernel_rfl) _ _ _ _ _ _ rfl rfl w.heap.size k cur 3 HGD.out X1 (hXl.trans hm.symm) (fun _ => ⟨rfl, _, rfl, HS.out⟩) (by rw [hXl, hR.out.1]; exact hmn) HO.out w.heap.size w HBD.out (Nat.le_refl _) ?_
      intro w4 hg4 hb4
      have HB4 := Lib.hid hb4
      refine hK _ _ ⟨⟨⟨_, trivial⟩, rfl⟩, ?_⟩
      clear hK K hb4
      refine wpAnyN_end rfl (by kernel_rfl) rfl ?_
      simp only [List.drop_succ_cons, List.drop_zero]
      rw [hXl]
      have HR4 : Hid (Rp n (k + m) (splice cur k X1)) := by rw [HX1.out]; exact Lib.hid (rp_splice hR.out hmn)
      go_wp2_with fail
      go_roundw
      case rel => exact ⟨k + m, _, by omega, hmn, by go_num, hg4, HR4, HB4⟩
      case measure => simp [intOf]; omega
    · obtain rfl : k = n := by omega
      have HF := Lib.hid (rp_row hG.out hR.out)
      go_wp2_with fail
      go_ret
      exact ⟨rfl, HF.out, hB.out⟩
/-! ### RejectDown -/
theorem dn_in {T : List Int} {l x : Int} (h : x ∈ dnS T l) : ∃ i : Nat, x = i ∧ i < T.length := by
  obtain ⟨i, hi, _, rfl⟩ := coL_mem.1 h
  exact ⟨i + 1, rfl, by omega⟩
def kpF (D : List Int) (k : Nat) (j : Nat) : Int := if decide ((j : Int) ∈ D.take k) = true then 0 else 1
theorem kpF_zero (D : List Int) : kpF D 0 = fun _ => 1 := by
  funext j
  unfold kpF
  simp
theorem kp_put {D : List Int} {w : World} {lo hi g n k i : Nat} (h : IFun w lo hi (some ⟨g, 0, none⟩) n (kpF D k)) (hk : k < D.length) (hi9 : D.getD k 0 = i) :
    IFun (w.setCell ⟨g, i, none⟩ (.int .i64 0)) lo hi (some ⟨g, 0, none⟩) n (kpF D (k + 1)) :=
  (h.set (k := i) 0).congr fun j hj => by
    unfold kpF
    rw [list_snocE hk, hi9]
    by_cases e : j = i
    · subst e
      rw [if_pos rfl, if_pos (decide_eq_true (List.mem_append.2 (.inr (List.mem_singleton.2 rfl))))]
    · rw [if_neg e]
      have : ((j : Int) ∈ D.take k ++ [(i : Int)]) ↔ ((j : Int) ∈ D.take k) := by
        rw [List.mem_append, List.mem_singleton]
        exact ⟨fun h => h.resolve_right (by omega), .inl⟩
      simp only [this]
theorem kp_row {D : List Int} {w : World} {lo hi g n : Nat} (h : IFun w lo hi (some ⟨g, 0, none⟩) n (kpF D D.length)) : IFun w lo hi (some ⟨g, 0, none⟩) n (fun j => (kpK D n).getD j 0) :=
  h.congr fun j hj => by
    unfold kpF
    rw [List.take_length, kpK_at D hj]
set_option maxRecDepth 20000 in
set_option maxHeartbeats 6400000 in
theorem reject_impl (A : Option Addr) (C0 lo hi : Nat) (T : List Int) (l : Int) (w : World) (ht : IFun w lo hi A T.length (fun j => T.getD j 0)) (hh : hi ≤ w.heap.size) (hm : T.length ≤ 1048576) :
    Calls Try.prog 22 #[.slice A T.length C0, .int .i64 l] w (IntsPost (rjR T l) (fun j => (rjR T l).getD j 0) (akB T l) w) := by
  have HI := Lib.hid ht
  clear ht
  rcases h1 : akB T l with _ | _
  · have H1 := Lib.hid h1
    have HP := Lib.hid (rj_no h1)
    clear h1
    go_enter Try.func22, Try.ntmps22
    go_wp2_with fail
    refine (spikesIn_impl _ _ _ _ _ l _ HI.out hh hm).mono ?_
    unfold SkPost
    rw [H1.out]
    rintro e w1 ⟨g, n, C, g', m, C', rfl, htw⟩
    have HC := Lib.hid (col_start 3 1 htw.up.2)
    clear htw
    go_wp2_with fail
    go_ret2
    exact ie_no ⟨HP.out.1, rfl⟩ HC.out
  have H1 := Lib.hid h1
  have HP := Lib.hid (rj_yes h1)
  have h30 := (ak_is h1).1.hi
  have h03 := (ak_is h1).1.lo
  have HD : Hid (dnR T l = dnS T l) := Lib.hid (by unfold dnR; rw [h1, if_pos rfl])
  clear h1
  obtain ⟨D, hD⟩ : ∃ D, dnS T l = D := ⟨_, rfl⟩
  have HIN : Hid (∀ x ∈ D, ∃ i : Nat, x = i ∧ i < T.length) := by rw [← hD]; exact Lib.hid fun x hx => dn_in hx
  have hDl : (dnS T l).length ≤ T.length - 2 := coL_len _ _ _
  rw [hD] at HD HP hDl
  have hD30 : D.length ≤ 30 := by omega
  clear hD hDl
  go_enter Try.func22, Try.ntmps22
  go_wp2_with fail
  refine (spikesIn_impl _ _ _ _ _ l _ HI.out hh hm).mono ?_
  unfold SkPost
  rw [H1.out, HD.out]
  rintro e w1 ⟨g, n, C, g', m, C', rfl, htw⟩
  obtain rfl := col_lenJ htw.dn
  have HB1 := Lib.hid htw.up.2
  have HR1 := Lib.hid (ifun_of_own htw.dn.1)
  clear htw
  go_wp2_with fail
  have hc1 : (w1.alloc (.cells #[.int .i64 1] 3)).cell? ⟨w1.heap.size, 0, none⟩ = some (.int .i64 1) := World.cell?_alloc_new _ _ _ _
  refine (repeat_v w1.heap.size 1 T.length (by omega) h30 _ hc1).mono ?_
  rintro e w3 ⟨rfl, hf, hb⟩
  have hb13 : Below w1.heap.size w1 w3 := bthen ((Below.refl _ w1).alloc (Nat.le_refl _) _) hb (by simp)
  rw [World.size_alloc] at hf
  have HF3 := Lib.hid hf
  have HB3 := Lib.hid hb13
  clear hf hb hc1
  simp only [World.size_alloc]
  go_wp2_with fail
  go_loopw [28] (fun i wr => ∃ k : Nat, k ≤ D.length ∧ i = .int .i64 k ∧ Hid (IFun wr (w1.heap.size + 1) (w1.heap.size + 1 + 1) (some ⟨w1.heap.size + 1, 0, none⟩) T.length (kpF D k)) ∧ Hid (Below w1.heap.size w1 wr)) (fun i _ => D.length - (intOf i).toNat)
  case atStart => exact ⟨0, Nat.zero_le _, rfl, by rw [kpF_zero]; exact HF3, HB3⟩
  case round =>
    obtain ⟨k, hk, rfl, hF, hB⟩ := hrel
    by_cases hlt : k < D.length
    · obtain ⟨b, e', _, _, c0, _⟩ := (HR1.out.on hB.out (Nat.le_refl _)) k hlt
      obtain rfl : g' = b := by injection e' with h; injection h
      clear e'
      obtain ⟨i, hi9, hin⟩ := HIN.out (D.getD k 0) (by rw [List.getD_eq_getElem?_getD, List.getElem?_eq_getElem hlt]; exact List.getElem_mem hlt)
      dsimp only at c0
      rw [hi9] at c0
      obtain ⟨b, e', _, _, d0, f0⟩ := hF.out i hin
      obtain rfl : w1.heap.size + 1 = b := by injection e' with h; injection h
      clear e'
      obtain ⟨u, hu⟩ : ∃ u, kpF D k i = u := ⟨_, rfl⟩
      rw [hu] at d0
      have HF4 := Lib.hid (kp_put hF.out hlt hi9)
      have HB4 := Lib.hid (hB.out.setCell (p := ⟨w1.heap.size + 1, i, none⟩) (Nat.le_succ _) (.int .i64 0))
      clear hi9 hu
      go_wp2_with fail
      go_roundw
      case rel => exact ⟨k + 1, by omega, by go_num, HF4, HB4⟩
      case measure => simp [intOf]; omega
    · obtain rfl : k = D.length := by omega
      have HE := Lib.hid (kp_row hF.out)
      have HBE := Lib.hid (bthen HB1.out hB.out HB1.out.size)
      have hsz := filt_lt hF.out (by omega)
      have hsw := HB1.out.size
      go_wp2_with fail
      go_ret2
      have h9 := ie_own (g := w1.heap.size + 1) (C := T.length) ⟨HP.out.1, rfl⟩ (by rw [kpK_len]; exact HE.out.wide (by omega) hsz) HBE.out
      rw [kpK_len] at h9
      exact h9
end Go.Proofs.Ytjekmmekkfmplaa
