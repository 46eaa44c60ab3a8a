/-
  Sailed lines and lines to repeat, the law's model: contracts of spec.l1Has, l1Rising, l1Put, SailedLines, LinesToRepeat over this translation. Conditions: stated at each theorem.
-/
import Derived.Test.YtllfmjnniagjfaaJs
import Derived.Test.YtllfmjnniagjfaaTc
import Derived.Test.YtllfmjnniagjfaaPw
namespace Go.Proofs.Ytllfmjnniagjfaa
open Go.RowKit
set_option linter.unusedVariables false

theorem ivs_atJ {ls : List Int} {j : Nat} {v : Int} (h : ls[j]? = some v) : (ivs ls)[j]? = some (.int .i64 v) := by simp [ivs, h]
/-- A row of numbers that a call made: the number at k. -/
theorem own_cellJ {w : World} {B g n C k : Nat} {xs : List Int} {x : Int} (h : w.ownsRow B 3 1 (.slice (some ⟨g, 0, none⟩) n C) n (ivs xs)) (hk : k < n) (hx : xs[k]? = some x) : w.cell? ⟨g, k, none⟩ = some (.int .i64 x) := by
  rw [World.ownsRow.cellAt h k (by omega)]
  exact ivs_atJ hx
theorem own_capsJ {W : World} {B T z n : Nat} {v : Value} {xs : List Value} (h : W.ownsRow B T z v (n + 1) xs) : ∃ g cap, v = .slice (some ⟨g, 0, none⟩) (n + 1) cap ∧ n + 1 ≤ cap ∧ cap ≤ maxLen := by
  rcases h.2 with ⟨_, e⟩ | ⟨g, cap, cur, e, _, _, h1, h2, _⟩
  · omega
  · exact ⟨g, cap, e, h1, h2⟩
/-! ### Is a number in a row -/
set_option maxRecDepth 20000 in
theorem hasJ_spec (B g n C : Nat) (xs : List Int) (x : Int) (r : Bool) (hr : decide (x ∈ xs) = r) (w : World) (ho : w.ownsRow B 3 1 (.slice (some ⟨g, 0, none⟩) n C) n (ivs xs)) (hn : xs.length = n) (h12 : n ≤ 30) :
    Calls Try.prog 70 #[.slice (some ⟨g, 0, none⟩) n C, .int .i64 x] w fun e w' => e = .returned (.bool r) ∧ Below w.heap.size w w' := by
  have HO := Lib.hid ho
  have HR := Lib.hid hr
  have HN := Lib.hid hn
  clear ho hr hn
  go_enter Try.func70, Try.ntmps70
  go_wp2_with fail
  go_loopw [5] (fun i wr => ∃ k : Nat, k ≤ n ∧ i = .int .i64 k ∧ Hid (∀ j, j < k → xs[j]? ≠ some x) ∧ Hid (Below w.heap.size w wr)) (fun i _ => n - (intOf i).toNat)
  case atStart => exact ⟨0, Nat.zero_le _, rfl, Lib.hid fun j h => absurd h (by omega), Lib.hid (Below.refl _ _)⟩
  case round =>
    obtain ⟨k, hk, rfl, hA, hB⟩ := hrel
    by_cases hlt : k < n
    · obtain ⟨y, hy⟩ : ∃ y, xs[k]? = some y := ⟨_, List.getElem?_eq_getElem (by rw [HN.out]; exact hlt)⟩
      have cy := own_cellJ (own_below HO.out hB.out) hlt hy
      by_cases he : y = x
      · have hd : (y == x) = true := beq_iff_eq.2 he
        have HP : Hid (r = true) := Lib.hid (by rw [← HR.out]; exact decide_eq_true (List.mem_of_getElem? (by rw [← he]; exact hy)))
        clear hy he
        go_wp2_with fail
        go_ret
        exact ⟨ret_bool HP.out.symm, hB.out⟩
      · have hd : (y == x) = false := beq_eq_false_iff_ne.2 he
        have HA2 : Hid (∀ j, j < k + 1 → xs[j]? ≠ some x) := Lib.hid fun j hj e => by
          rcases Nat.lt_or_ge j k with a | a
          · exact hA.out j a e
          · obtain rfl : j = k := by omega
            exact he (Option.some.inj (hy.symm.trans e))
        clear hy he
        go_wp2_with fail
        go_roundw
        case rel => exact ⟨k + 1, by omega, by go_num, HA2, hB⟩
        case measure => simp [intOf]; omega
    · obtain rfl : k = n := by omega
      have HP : Hid (r = false) := Lib.hid (by
        rw [← HR.out]
        refine decide_eq_false fun hm => ?_
        obtain ⟨j, hj⟩ := List.mem_iff_getElem?.1 hm
        exact hA.out j (by have := (List.getElem?_eq_some_iff.1 hj).1; have := HN.out; omega) hj)
      go_wp2_with fail
      go_ret
      exact ⟨ret_bool HP.out.symm, hB.out⟩
/-! ### Do numbers rise -/
theorem rise_bad {P : List Int} : ∀ {n k : Nat}, k < n → (inB (P.getD k 0) 1 999 && (decide (k = 0) || decide (P.getD (k - 1) 0 < P.getD k 0))) = false → riseB P n = false
  | n + 1, k, h, hb => by
    rw [riseB_succ]
    rcases Nat.lt_or_ge k n with a | a
    · rw [rise_bad a hb, Bool.false_and]
    · obtain rfl : k = n := by omega
      rw [hb, Bool.and_false]
set_option maxRecDepth 20000 in
set_option maxHeartbeats 1600000 in
theorem riseJ_spec (A : Option Addr) (n C : Nat) (P : List Int) (r : Bool) (hr : riseB P P.length = r) (w : World) (hi : IFun w 0 w.heap.size A n (fun j => P.getD j 0)) (hn : P.length = n) (h12 : n ≤ 30) :
    Calls Try.prog 66 #[.slice A n C, .int .i64 1, .int .i64 999] w fun e w' => e = .returned (.bool r) ∧ Below w.heap.size w w' := by
  have HI := Lib.hid hi
  have HR := Lib.hid hr
  subst hn
  clear hi hr
  go_enter Try.func66, Try.ntmps66
  go_wp2_with fail
  go_loopw [7] (fun i wr => ∃ k : Nat, k ≤ P.length ∧ i = .int .i64 k ∧ Hid (riseB P k = true) ∧ Hid (Below w.heap.size w wr)) (fun i _ => P.length - (intOf i).toNat)
  case atStart => exact ⟨0, Nat.zero_le _, rfl, Lib.hid rfl, Lib.hid (Below.refl _ _)⟩
  case round =>
    obtain ⟨k, hk, rfl, hA, hB⟩ := hrel
    by_cases hlt : k < P.length
    · obtain ⟨g, rfl, hlo, hhi, c0, hf⟩ := (HI.out.on hB.out (Nat.le_refl _)) k hlt
      clear hf
      obtain ⟨x, hx⟩ : ∃ x, P.getD k 0 = x := ⟨_, rfl⟩
      dsimp only at c0
      rw [hx] at c0
      have HX := Lib.hid hx
      clear hx
      obtain ⟨W0, rfl⟩ : ∃ W : World, W = wr := ⟨_, rfl⟩
      rcases h1 : inB x 1 999 with _ | _
      · have H1 := Lib.hid h1
        have HP : Hid (r = false) := Lib.hid (by rw [← HR.out]; exact rise_bad hlt (by rw [HX.out, h1]; rfl))
        clear h1
        go_wp2_with fail
        have lc0 := lcell (c0)
        refine region_later (W := W0) (by kernel_rfl) (by kernel_rfl) (Below.refl _ _) ?_
        repeat (go_big_quiet_step (((go_at_call 78; with_reducible exact later_same (l1In_v _ _ _ _ H1.out _)))))
        refine wpQuiet_nil ?_
        intro W1 hW1
        have HL : Hid (Below W0.heap.size W0 W1) := by obtain ⟨x, rfl⟩ := hW1; exact Lib.hid x.below
        clear hW1 lc0
        have HB2 := Lib.hid (bthen hB.out HL.out hB.out.size)
        clear c0
        go_wp2_with fail
        go_ret
        exact ⟨ret_bool HP.out.symm, HB2.out⟩
      have H1 := Lib.hid h1
      rcases k with _ | j
      · have HA2 : Hid (riseB P (0 + 1) = true) := Lib.hid (by rw [riseB_succ, HX.out, h1]; rfl)
        clear h1
        go_wp2_with fail
        have lc0 := lcell (c0)
        refine region_later (W := W0) (by kernel_rfl) (by kernel_rfl) (Below.refl _ _) ?_
        repeat (go_big_quiet_step (((go_at_call 78; with_reducible exact later_same (l1In_v _ _ _ _ H1.out _)))))
        refine wpQuiet_nil ?_
        intro W1 hW1
        have HL : Hid (Below W0.heap.size W0 W1) := by obtain ⟨x, rfl⟩ := hW1; exact Lib.hid x.below
        clear hW1 lc0
        have HB2 := Lib.hid (bthen hB.out HL.out hB.out.size)
        clear c0
        go_wp2_with fail
        go_roundw
        case rel => exact ⟨1, by omega, by go_num, HA2, HB2⟩
        case measure => simp [intOf]; omega
      obtain ⟨g', e', hlo', hhi', d0, hf⟩ := (HI.out.on hB.out (Nat.le_refl _)) j (by omega)
      clear hf
      obtain rfl : g = g' := by injection e' with h; injection h
      obtain ⟨y, hy⟩ : ∃ y, P.getD j 0 = y := ⟨_, rfl⟩
      dsimp only at d0
      rw [hy] at d0
      clear e'
      by_cases hyx : y < x
      · have hd : decide (y ≥ x) = false := decide_eq_false (by omega)
        have HA2 : Hid (riseB P (j + 1 + 1) = true) := Lib.hid (by rw [riseB_succ, hA.out, HX.out, h1, Nat.add_sub_cancel, hy, decide_eq_true hyx]; simp)
        clear h1 hy
        go_wp2_with fail
        have lc0 := lcell (c0)
        have lc1 := lcell (d0)
        refine region_later (W := W0) (by kernel_rfl) (by kernel_rfl) (Below.refl _ _) ?_
        repeat (go_big_quiet_step (((go_at_call 78; with_reducible exact later_same (l1In_v _ _ _ _ H1.out _)))))
        refine wpQuiet_nil ?_
        intro W1 hW1
        have HL : Hid (Below W0.heap.size W0 W1) := by obtain ⟨x, rfl⟩ := hW1; exact Lib.hid x.below
        clear hW1 lc0 lc1
        have HB2 := Lib.hid (bthen hB.out HL.out hB.out.size)
        clear c0 d0
        go_wp2_with fail
        go_roundw
        case rel => exact ⟨j + 1 + 1, by omega, by go_num, HA2, HB2⟩
        case measure => simp [intOf]; omega
      · have hd : decide (y ≥ x) = true := decide_eq_true (by omega)
        have HP : Hid (r = false) := Lib.hid (by rw [← HR.out]; exact rise_bad hlt (by rw [HX.out, Nat.add_sub_cancel, hy, decide_eq_false hyx]; simp))
        clear h1 hy
        go_wp2_with fail
        have lc0 := lcell (c0)
        have lc1 := lcell (d0)
        refine region_later (W := W0) (by kernel_rfl) (by kernel_rfl) (Below.refl _ _) ?_
        repeat (go_big_quiet_step (((go_at_call 78; with_reducible exact later_same (l1In_v _ _ _ _ H1.out _)))))
        refine wpQuiet_nil ?_
        intro W1 hW1
        have HL : Hid (Below W0.heap.size W0 W1) := by obtain ⟨x, rfl⟩ := hW1; exact Lib.hid x.below
        clear hW1 lc0 lc1
        have HB2 := Lib.hid (bthen hB.out HL.out hB.out.size)
        clear c0 d0
        go_wp2_with fail
        go_ret
        exact ⟨ret_bool HP.out.symm, HB2.out⟩
    · obtain rfl : k = P.length := by omega
      have HP : Hid (r = true) := Lib.hid (by rw [← HR.out]; exact hA.out)
      go_wp2_with fail
      go_ret
      exact ⟨ret_bool HP.out.symm, hB.out⟩
/-! ### A number put in its place -/
def PartJ (w : World) (a : Addr) (l : List Int) : Prop := ∀ (j : Nat) (u : Value), (ivs l)[j]? = some u → w.cell? (a.add j) = some u
theorem PartJ.next {w w' : World} {a : Addr} {l : List Int} (h : PartJ w a l) (hb : Below w.heap.size w w') : PartJ w' a l := fun j u hu => cell_next hb (h j u hu)
theorem part_noneJ (w : World) (a : Addr) : PartJ w a [] := fun j u hu => by cases hu
theorem ivs_len (l : List Int) : (ivs l).length = l.length := by simp [ivs]
theorem ivs_split (L : List Int) (k : Nat) : ivs L = ivs (L.take k) ++ ivs (L.drop k) := by
  unfold ivs
  rw [← List.map_append, List.take_append_drop]
theorem ivs_one (L : List Int) : ∀ u ∈ ivs L, u.oneCell' = true := by
  intro u hu
  simp only [ivs, List.mem_map] at hu
  obtain ⟨y, _, rfl⟩ := hu
  rfl
theorem part_ownJ {w : World} {B g n c : Nat} {M : List Int} (h : w.ownsRow B 3 1 (.slice (some ⟨g, 0, none⟩) n c) n (ivs M)) (hl : M.length = n) {k : Nat} (hk : k ≤ n) : PartJ w ⟨g, 0, none⟩ (M.take k) ∧ PartJ w ⟨g, k, none⟩ (M.drop k) := by
  have hlen := ivs_len M
  have hlt := ivs_len (M.take k)
  rw [List.length_take] at hlt
  refine ⟨fun j u hu => ?_, fun j u hu => ?_⟩
  · have hj := (List.getElem?_eq_some_iff.1 hu).1
    rw [add_none, Nat.zero_add, h.cellAt j (by omega), ivs_split M k, List.getElem?_append_left hj]
    exact hu
  · have hj := (List.getElem?_eq_some_iff.1 hu).1
    have hld := ivs_len (M.drop k)
    rw [List.length_drop] at hld
    rw [add_none, h.cellAt (k + j) (by omega), ivs_split M k, List.getElem?_append_right (by omega), show k + j - (ivs (M.take k)).length = j by omega]
    exact hu
theorem part_boxJ {w : World} {g : Nat} {x : Int} (h : Has w g [.int .i64 x]) : ∀ (j : Nat) (y : Value), ([.int .i64 x] : List Value)[j]? = some y → w.cell? ((⟨g, 0, none⟩ : Addr).add j) = some y := fun j y hy => by
  rw [add_none, Nat.zero_add]; exact h.at_ j y hy
theorem row_apartJ {W : World} {B T z n : Nat} {v : Value} {xs : List Value} (h : W.ownsRow B T z v n xs) : some W.heap.size ≠ v.ownBlock := fun e => by
  have := (h.lt _ e.symm).2
  omega
theorem own_capJ {W : World} {B T z n g C : Nat} {xs : List Value} (h : W.ownsRow B T z (.slice (some ⟨g, 0, none⟩) n C) n xs) : n ≤ C ∧ C ≤ maxLen := by
  rcases h.2 with ⟨e, _⟩ | ⟨g', cap, cur, e, _, _, h1, h2, _⟩
  · cases e
  · injection e with e1 e2 e3
    subst e3
    exact ⟨h1, h2⟩
theorem insL_at : ∀ {xs : List Int} {x : Int} {k : Nat}, k ≤ xs.length → (∀ p y, xs[p]? = some y → p < k → y < x) → (∀ y, xs[k]? = some y → x < y) → insL xs x = xs.take k ++ x :: xs.drop k := by
  intro xs x k hk h1 h2
  rcases Nat.lt_or_ge k xs.length with a | a
  · obtain ⟨z, hz⟩ : ∃ z, xs[k]? = some z := ⟨_, List.getElem?_eq_getElem a⟩
    exact insL_mid h1 hz (h2 z hz)
  · obtain rfl : k = xs.length := by omega
    rw [insL_end fun y hy => ?_]
    · simp
    · obtain ⟨p, hp⟩ := List.mem_iff_getElem?.1 hy
      exact h1 p y hp (List.getElem?_eq_some_iff.1 hp).1
set_option maxRecDepth 20000 in
set_option maxHeartbeats 6400000 in
theorem putJ_spec (B g n C : Nat) (xs : List Int) (x : Int) (hx : x ∉ xs) (w : World) (ho : w.ownsRow B 3 1 (.slice (some ⟨g, 0, none⟩) n C) n (ivs xs)) (hn : xs.length = n) (h12 : n ≤ 30) :
    Calls Try.prog 71 #[.slice (some ⟨g, 0, none⟩) n C, .int .i64 x] w fun e w' => ∃ v, e = .returned v ∧ Col w 3 1 v (n + 1) (ivs (insL xs x)) w' := by
  have HO := Lib.hid ho
  have HX := Lib.hid hx
  have HN := Lib.hid hn
  obtain ⟨hC1, hC2⟩ := own_capJ ho
  obtain ⟨i0, hi, hz0, hz1, hz2⟩ := info_parts info3
  have HI := Lib.hid (And.intro hi (And.intro hz0 (And.intro hz1 hz2)))
  clear hi hz0 hz1 hz2 ho hx hn
  go_enter Try.func71, Try.ntmps71
  go_wp2_with fail
  go_loopw [5] (fun i wr => ∃ k : Nat, k ≤ n ∧ i = .int .i64 k ∧ wr = w ∧ Hid (∀ p y, xs[p]? = some y → p < k → y < x)) (fun i _ => n - (intOf i).toNat)
  case atStart => exact ⟨0, Nat.zero_le _, rfl, rfl, Lib.hid fun p y _ h => absurd h (by omega)⟩
  case round =>
    obtain ⟨k, hk, rfl, hwr, hA⟩ := hrel
    rw [hwr]
    clear hwr
    by_cases hlt : k < n
    · obtain ⟨y, hy⟩ : ∃ y, xs[k]? = some y := ⟨_, List.getElem?_eq_getElem (by rw [HN.out]; exact hlt)⟩
      have cy := own_cellJ HO.out hlt hy
      have hne : y ≠ x := fun e => HX.out (List.mem_of_getElem? (by rw [← e]; exact hy))
      by_cases he : y < x
      · have hd : decide (y < x) = true := decide_eq_true he
        have HA2 : Hid (∀ p y, xs[p]? = some y → p < k + 1 → y < x) := Lib.hid fun p z hp hpk => by
          rcases Nat.lt_or_ge p k with a | a
          · exact hA.out p z hp a
          · obtain rfl : p = k := by omega
            obtain rfl : y = z := Option.some.inj (hy.symm.trans hp)
            exact he
        clear hy
        go_wp2_with fail
        go_roundw
        case rel => exact ⟨k + 1, by omega, by go_num, by first | rfl | trivial, HA2⟩
        case measure => simp [intOf]; omega
      · have hd : decide (y < x) = false := decide_eq_false he
        have hd2 : (y == x) = false := beq_eq_false_iff_ne.2 hne
        have HIQ : Hid (insL xs x = xs.take k ++ x :: xs.drop k) := Lib.hid (insL_at (by rw [HN.out]; exact hk) hA.out fun z hz => by
          obtain rfl : y = z := Option.some.inj (hy.symm.trans hz)
          omega)
        clear hy
        go_wp2_with fail
        obtain ⟨P1, P2⟩ := part_ownJ HO.out HN.out (k := k) hk
        have HPA0 := Lib.hid P1
        have HPB0 := Lib.hid P2
        clear P1 P2
        refine region_readsL (W := w) 12 6 [1, 2, 3, 5, 8, 9, 10] (by kernel_rfl) (by kernel_rfl) rfl (Below.refl _ _) (fun d _ _ _ _ h => by cases d <;> exact h) ?_
        simp only [picks, List.getElem?_cons_succ, List.getElem?_cons_zero]
        repeat (go_big_quiet_step (fail))
        refine wpQuiet_nil ?_
        obtain ⟨WD, hWD⟩ : ∃ WD, WD = w.drew := ⟨_, rfl⟩
        rw [← hWD]
        have hbd : Below w.heap.size w WD := by rw [hWD]; exact (Below.refl _ _).drew
        have HBD := Lib.hid hbd
        have HPA := Lib.hid (HPA0.out.next hbd)
        have HPB := Lib.hid (HPB0.out.next hbd)
        clear hWD hbd
        have HLT : Hid ((ivs (xs.take k)).length = k * 1) := Lib.hid (by rw [ivs_len, List.length_take, HN.out] <;> omega)
        have HLD : Hid ((ivs (xs.drop k)).length = (n - k) * 1) := Lib.hid (by rw [ivs_len, List.length_drop, HN.out] <;> omega)
        have HBWD := Lib.hid (Below.refl WD.heap.size WD)
        refine wpAnyN_two (i := 0) (i' := 6) (by kernel_rfl) ?_ ?_
        · refine wpOp_step rfl (fun K hK => ?_)
          rw [if_pos (by rfl)]
          have HBB := Lib.hid (HBWD.out.alloc HBWD.out.size (.cells #[] 3))
          have HCC := Lib.hid (col_start 3 1 HBWD.out)
          go_simp
          refine hK _ _ ⟨⟨⟨_, bthen HBD.out HBB.out HBD.out.size⟩, rfl⟩, ?_⟩
          clear hK K
          obtain ⟨Y0, hX⟩ : ∃ V, V = WD.alloc (.cells #[] 3) := ⟨_, rfl⟩
          rw [← hX]
          rw [← hX] at HBB HCC
          clear hX
          have HBY0 := HBB
          clear HBB
          have HCY0 := HCC
          clear HCC
          refine wpAnyN_two (i := 4) (i' := 6) (by kernel_rfl) ?_ ?_
          · refine wpOp_step rfl (fun K hK => ?_)
            rw [if_pos (by rfl)]
            refine wp_append_own _ _ _ 25 rfl WD.heap.size 3 i0 (.int .i64 0) 1 8 Try.underlying25 HI.out.1 HI.out.2.1 HI.out.2.2.1 HI.out.2.2.2 rfl (by decide) _ _ _ rfl HCY0.out.1 ⟨g, 0, none⟩ (k) (C) (ivs (xs.take k)) rfl (HLT.out) (HPA.out.next HCY0.out.2) (ivs_one _) (by unfold maxLen; omega) (by omega) HCY0.out.2.size ?_
            intro v' Y1 hown hgrow _
            have HCY1 := Lib.hid (HCY0.out.grow hown hgrow)
            clear hown hgrow
            refine hK _ _ ⟨⟨⟨_, bthen HBD.out HCY1.out.2 HBD.out.size⟩, rfl⟩, ?_⟩
            clear hK K
            refine wpAnyN_one (i := 6) (by kernel_rfl) ?_
            have HBY1 := Lib.hid HCY1.out.2
            refine wpOp_step rfl (fun K hK => ?_)
            rw [if_pos (by rfl)]
            have HBB := Lib.hid (HBY1.out.alloc HBY1.out.size (.cells #[.int .i64 x] 3))
            have HGG := Lib.hid (Has.new Y1 #[.int .i64 x] 3)
            have HCC := Lib.hid (HCY1.out.next (box1 (Below.refl _ _) (w := Y1) (cs := #[.int .i64 x]) (T := 3)).1)
            go_simp
            refine hK _ _ ⟨⟨⟨_, bthen HBD.out HBB.out HBD.out.size⟩, rfl⟩, ?_⟩
            clear hK K
            obtain ⟨Y2, hX⟩ : ∃ V, V = Y1.alloc (.cells #[.int .i64 x] 3) := ⟨_, rfl⟩
            rw [← hX]
            rw [← hX] at HBB HGG HCC
            clear hX
            have HBY2 := HBB
            clear HBB
            have HGY2 := HGG
            clear HGG
            have HCY2 := HCC
            clear HCC
            refine wpAnyN_one (i := 7) (by kernel_rfl) ?_
            refine wpOp_step rfl (fun K hK => ?_)
            rw [if_pos (by rfl)]
            refine wp_append_own _ _ _ 25 rfl WD.heap.size 3 i0 (.int .i64 0) 1 8 Try.underlying25 HI.out.1 HI.out.2.1 HI.out.2.2.1 HI.out.2.2.2 rfl (by decide) _ _ _ rfl HCY2.out.1 ⟨Y1.heap.size, 0, none⟩ (1) (1) ([.int .i64 x]) rfl (rfl) (part_boxJ HGY2.out) (by simp [Value.oneCell']) (by unfold maxLen; omega) (by omega) HCY2.out.2.size ?_
            intro v' Y3 hown hgrow _
            have HCY3 := Lib.hid (HCY2.out.grow hown hgrow)
            clear hown hgrow
            refine hK _ _ ⟨⟨⟨_, bthen HBD.out HCY3.out.2 HBD.out.size⟩, rfl⟩, ?_⟩
            clear hK K
            refine wpAnyN_one (i := 11) (by kernel_rfl) ?_
            refine wpOp_step rfl (fun K hK => ?_)
            rw [if_pos (by rfl)]
            refine wp_append_own _ _ _ 25 rfl WD.heap.size 3 i0 (.int .i64 0) 1 8 Try.underlying25 HI.out.1 HI.out.2.1 HI.out.2.2.1 HI.out.2.2.2 rfl (by decide) _ _ _ rfl HCY3.out.1 ⟨g, k, none⟩ (n - k) (C - k) (ivs (xs.drop k)) rfl (HLD.out) (HPB.out.next HCY3.out.2) (ivs_one _) (by unfold maxLen; omega) (by omega) HCY3.out.2.size ?_
            intro v' Y4 hown hgrow _
            have HCY4 := Lib.hid (HCY3.out.grow hown hgrow)
            clear hown hgrow
            refine hK _ _ ⟨⟨⟨_, bthen HBD.out HCY4.out.2 HBD.out.size⟩, rfl⟩, ?_⟩
            clear hK K
            have HF : Hid (Col w 3 1 v' (n + 1) (ivs (insL xs x)) Y4) := by
              have h := HCY4.out.1
              have e : 0 + k + 1 + (n - k) = n + 1 := by omega
              rw [e] at h
              have e2 : ivs (insL xs x) = [] ++ ivs (xs.take k) ++ [.int .i64 x] ++ ivs (xs.drop k) := by
                rw [HIQ.out]
                simp [ivs]
              rw [← e2] at h
              exact Lib.hid ⟨own_base h HBD.out.size, bthen HBD.out HCY4.out.2 HBD.out.size⟩
            refine wpAnyN_end rfl (by kernel_rfl) rfl ?_
            simp only [List.drop_succ_cons, List.drop_zero]
            go_wp2_with fail
            go_ret
            exact ⟨_, rfl, HF.out⟩
          · refine wpOp_step rfl (fun K hK => ?_)
            rw [if_pos (by rfl)]
            have HBB := Lib.hid (HBY0.out.alloc HBY0.out.size (.cells #[.int .i64 x] 3))
            have HGG := Lib.hid (Has.new Y0 #[.int .i64 x] 3)
            have HCC := Lib.hid (HCY0.out.next (box1 (Below.refl _ _) (w := Y0) (cs := #[.int .i64 x]) (T := 3)).1)
            go_simp
            refine hK _ _ ⟨⟨⟨_, bthen HBD.out HBB.out HBD.out.size⟩, rfl⟩, ?_⟩
            clear hK K
            obtain ⟨Y1, hX⟩ : ∃ V, V = Y0.alloc (.cells #[.int .i64 x] 3) := ⟨_, rfl⟩
            rw [← hX]
            rw [← hX] at HBB HGG HCC
            clear hX
            have HBY1 := HBB
            clear HBB
            have HGY1 := HGG
            clear HGG
            have HCY1 := HCC
            clear HCC
            refine wpAnyN_one (i := 4) (by kernel_rfl) ?_
            refine wpOp_step rfl (fun K hK => ?_)
            rw [if_pos (by rfl)]
            refine wp_append_own _ _ _ 25 rfl WD.heap.size 3 i0 (.int .i64 0) 1 8 Try.underlying25 HI.out.1 HI.out.2.1 HI.out.2.2.1 HI.out.2.2.2 rfl (by decide) _ _ _ rfl HCY1.out.1 ⟨g, 0, none⟩ (k) (C) (ivs (xs.take k)) rfl (HLT.out) (HPA.out.next HCY1.out.2) (ivs_one _) (by unfold maxLen; omega) (by omega) HCY1.out.2.size ?_
            intro v' Y2 hown hgrow _
            have HCY2 := Lib.hid (HCY1.out.grow hown hgrow)
            have HGY2 := Lib.hid (has_grown HGY1.out hgrow (row_apartJ HCY0.out.1))
            clear hown hgrow
            refine hK _ _ ⟨⟨⟨_, bthen HBD.out HCY2.out.2 HBD.out.size⟩, rfl⟩, ?_⟩
            clear hK K
            refine wpAnyN_one (i := 7) (by kernel_rfl) ?_
            refine wpOp_step rfl (fun K hK => ?_)
            rw [if_pos (by rfl)]
            refine wp_append_own _ _ _ 25 rfl WD.heap.size 3 i0 (.int .i64 0) 1 8 Try.underlying25 HI.out.1 HI.out.2.1 HI.out.2.2.1 HI.out.2.2.2 rfl (by decide) _ _ _ rfl HCY2.out.1 ⟨Y0.heap.size, 0, none⟩ (1) (1) ([.int .i64 x]) rfl (rfl) (part_boxJ HGY2.out) (by simp [Value.oneCell']) (by unfold maxLen; omega) (by omega) HCY2.out.2.size ?_
            intro v' Y3 hown hgrow _
            have HCY3 := Lib.hid (HCY2.out.grow hown hgrow)
            clear hown hgrow
            refine hK _ _ ⟨⟨⟨_, bthen HBD.out HCY3.out.2 HBD.out.size⟩, rfl⟩, ?_⟩
            clear hK K
            refine wpAnyN_one (i := 11) (by kernel_rfl) ?_
            refine wpOp_step rfl (fun K hK => ?_)
            rw [if_pos (by rfl)]
            refine wp_append_own _ _ _ 25 rfl WD.heap.size 3 i0 (.int .i64 0) 1 8 Try.underlying25 HI.out.1 HI.out.2.1 HI.out.2.2.1 HI.out.2.2.2 rfl (by decide) _ _ _ rfl HCY3.out.1 ⟨g, k, none⟩ (n - k) (C - k) (ivs (xs.drop k)) rfl (HLD.out) (HPB.out.next HCY3.out.2) (ivs_one _) (by unfold maxLen; omega) (by omega) HCY3.out.2.size ?_
            intro v' Y4 hown hgrow _
            have HCY4 := Lib.hid (HCY3.out.grow hown hgrow)
            clear hown hgrow
            refine hK _ _ ⟨⟨⟨_, bthen HBD.out HCY4.out.2 HBD.out.size⟩, rfl⟩, ?_⟩
            clear hK K
            have HF : Hid (Col w 3 1 v' (n + 1) (ivs (insL xs x)) Y4) := by
              have h := HCY4.out.1
              have e : 0 + k + 1 + (n - k) = n + 1 := by omega
              rw [e] at h
              have e2 : ivs (insL xs x) = [] ++ ivs (xs.take k) ++ [.int .i64 x] ++ ivs (xs.drop k) := by
                rw [HIQ.out]
                simp [ivs]
              rw [← e2] at h
              exact Lib.hid ⟨own_base h HBD.out.size, bthen HBD.out HCY4.out.2 HBD.out.size⟩
            refine wpAnyN_end rfl (by kernel_rfl) rfl ?_
            simp only [List.drop_succ_cons, List.drop_zero]
            go_wp2_with fail
            go_ret
            exact ⟨_, rfl, HF.out⟩
        · refine wpOp_step rfl (fun K hK => ?_)
          rw [if_pos (by rfl)]
          have HBB := Lib.hid (HBWD.out.alloc HBWD.out.size (.cells #[.int .i64 x] 3))
          have HGG := Lib.hid (Has.new WD #[.int .i64 x] 3)
          have HZZ : Hid ((WD.alloc (.cells #[.int .i64 x] 3)).heap.size = WD.heap.size + 1) := Lib.hid (World.size_alloc _ _)
          go_simp
          refine hK _ _ ⟨⟨⟨_, bthen HBD.out HBB.out HBD.out.size⟩, rfl⟩, ?_⟩
          clear hK K
          obtain ⟨Y0, hX⟩ : ∃ V, V = WD.alloc (.cells #[.int .i64 x] 3) := ⟨_, rfl⟩
          rw [← hX]
          rw [← hX] at HBB HGG HZZ
          clear hX
          have HBY0 := HBB
          clear HBB
          have HGY0 := HGG
          clear HGG
          have HZY : Hid (Y0.heap.size = WD.heap.size + 1) := HZZ
          refine wpAnyN_one (i := 0) (by kernel_rfl) ?_
          refine wpOp_step rfl (fun K hK => ?_)
          rw [if_pos (by rfl)]
          have HBB := Lib.hid (HBY0.out.alloc HBY0.out.size (.cells #[] 3))
          have HCC := Lib.hid (col_start 3 1 HBY0.out)
          have HGG := Lib.hid (HGY0.out.next (box1 (Below.refl _ _) (w := Y0) (cs := #[]) (T := 3)).1)
          go_simp
          refine hK _ _ ⟨⟨⟨_, bthen HBD.out HBB.out HBD.out.size⟩, rfl⟩, ?_⟩
          clear hK K
          obtain ⟨Y1, hX⟩ : ∃ V, V = Y0.alloc (.cells #[] 3) := ⟨_, rfl⟩
          rw [← hX]
          rw [← hX] at HBB HCC HGG
          clear hX
          have HBY1 := HBB
          clear HBB
          have HCY1 := HCC
          clear HCC
          have HGY1 := HGG
          clear HGG
          refine wpAnyN_one (i := 4) (by kernel_rfl) ?_
          refine wpOp_step rfl (fun K hK => ?_)
          rw [if_pos (by rfl)]
          refine wp_append_own _ _ _ 25 rfl WD.heap.size 3 i0 (.int .i64 0) 1 8 Try.underlying25 HI.out.1 HI.out.2.1 HI.out.2.2.1 HI.out.2.2.2 rfl (by decide) _ _ _ rfl HCY1.out.1 ⟨g, 0, none⟩ (k) (C) (ivs (xs.take k)) rfl (HLT.out) (HPA.out.next HCY1.out.2) (ivs_one _) (by unfold maxLen; omega) (by omega) HCY1.out.2.size ?_
          intro v' Y2 hown hgrow _
          have HCY2 := Lib.hid (HCY1.out.grow hown hgrow)
          have HGY2 := Lib.hid (has_grown HGY1.out hgrow (fun e => by have e2 : WD.heap.size = Y0.heap.size := Option.some.inj e; have := HZY.out; omega))
          clear hown hgrow
          refine hK _ _ ⟨⟨⟨_, bthen HBD.out HCY2.out.2 HBD.out.size⟩, rfl⟩, ?_⟩
          clear hK K
          refine wpAnyN_one (i := 7) (by kernel_rfl) ?_
          refine wpOp_step rfl (fun K hK => ?_)
          rw [if_pos (by rfl)]
          refine wp_append_own _ _ _ 25 rfl WD.heap.size 3 i0 (.int .i64 0) 1 8 Try.underlying25 HI.out.1 HI.out.2.1 HI.out.2.2.1 HI.out.2.2.2 rfl (by decide) _ _ _ rfl HCY2.out.1 ⟨WD.heap.size, 0, none⟩ (1) (1) ([.int .i64 x]) rfl (rfl) (part_boxJ HGY2.out) (by simp [Value.oneCell']) (by unfold maxLen; omega) (by omega) HCY2.out.2.size ?_
          intro v' Y3 hown hgrow _
          have HCY3 := Lib.hid (HCY2.out.grow hown hgrow)
          clear hown hgrow
          refine hK _ _ ⟨⟨⟨_, bthen HBD.out HCY3.out.2 HBD.out.size⟩, rfl⟩, ?_⟩
          clear hK K
          refine wpAnyN_one (i := 11) (by kernel_rfl) ?_
          refine wpOp_step rfl (fun K hK => ?_)
          rw [if_pos (by rfl)]
          refine wp_append_own _ _ _ 25 rfl WD.heap.size 3 i0 (.int .i64 0) 1 8 Try.underlying25 HI.out.1 HI.out.2.1 HI.out.2.2.1 HI.out.2.2.2 rfl (by decide) _ _ _ rfl HCY3.out.1 ⟨g, k, none⟩ (n - k) (C - k) (ivs (xs.drop k)) rfl (HLD.out) (HPB.out.next HCY3.out.2) (ivs_one _) (by unfold maxLen; omega) (by omega) HCY3.out.2.size ?_
          intro v' Y4 hown hgrow _
          have HCY4 := Lib.hid (HCY3.out.grow hown hgrow)
          clear hown hgrow
          refine hK _ _ ⟨⟨⟨_, bthen HBD.out HCY4.out.2 HBD.out.size⟩, rfl⟩, ?_⟩
          clear hK K
          have HF : Hid (Col w 3 1 v' (n + 1) (ivs (insL xs x)) Y4) := by
            have h := HCY4.out.1
            have e : 0 + k + 1 + (n - k) = n + 1 := by omega
            rw [e] at h
            have e2 : ivs (insL xs x) = [] ++ ivs (xs.take k) ++ [.int .i64 x] ++ ivs (xs.drop k) := by
              rw [HIQ.out]
              simp [ivs]
            rw [← e2] at h
            exact Lib.hid ⟨own_base h HBD.out.size, bthen HBD.out HCY4.out.2 HBD.out.size⟩
          refine wpAnyN_end rfl (by kernel_rfl) rfl ?_
          simp only [List.drop_succ_cons, List.drop_zero]
          go_wp2_with fail
          go_ret
          exact ⟨_, rfl, HF.out⟩
    · obtain rfl : k = n := by omega
      have HIQ : Hid (insL xs x = xs.take k ++ x :: xs.drop k) := Lib.hid (insL_at (by rw [HN.out]; exact hk) hA.out fun z hz => by
        have := (List.getElem?_eq_some_iff.1 hz).1
        have := HN.out
        omega)
      go_wp2_with fail
      obtain ⟨P1, P2⟩ := part_ownJ HO.out HN.out (k := k) hk
      have HPA0 := Lib.hid P1
      have HPB0 := Lib.hid P2
      clear P1 P2
      refine region_readsL (W := w) 12 6 [1, 2, 3, 5, 8, 9, 10] (by kernel_rfl) (by kernel_rfl) rfl (Below.refl _ _) (fun d _ _ _ _ h => by cases d <;> exact h) ?_
      simp only [picks, List.getElem?_cons_succ, List.getElem?_cons_zero]
      repeat (go_big_quiet_step (fail))
      refine wpQuiet_nil ?_
      obtain ⟨WD, hWD⟩ : ∃ WD, WD = w.drew := ⟨_, rfl⟩
      rw [← hWD]
      have hbd : Below w.heap.size w WD := by rw [hWD]; exact (Below.refl _ _).drew
      have HBD := Lib.hid hbd
      have HPA := Lib.hid (HPA0.out.next hbd)
      obtain ⟨O3, hO3⟩ : ∃ O3 : Addr, (if C = k then some (⟨g, 0, none⟩ : Addr) else some ⟨g, k, none⟩) = some O3 := by
        split
        · exact ⟨_, rfl⟩
        · exact ⟨_, rfl⟩
      rw [hO3]
      have HPB : Hid (PartJ WD O3 (xs.drop k)) := by
        split at hO3
        · rw [List.drop_eq_nil_of_le (by rw [HN.out]; omega)]
          exact Lib.hid (part_noneJ _ _)
        · obtain rfl := Option.some.inj hO3
          exact Lib.hid (HPB0.out.next hbd)
      clear hWD hbd hO3
      have HLT : Hid ((ivs (xs.take k)).length = k * 1) := Lib.hid (by rw [ivs_len, List.length_take, HN.out] <;> omega)
      have HLD : Hid ((ivs (xs.drop k)).length = (0) * 1) := Lib.hid (by rw [ivs_len, List.length_drop, HN.out] <;> omega)
      have HBWD := Lib.hid (Below.refl WD.heap.size WD)
      refine wpAnyN_two (i := 0) (i' := 6) (by kernel_rfl) ?_ ?_
      · refine wpOp_step rfl (fun K hK => ?_)
        rw [if_pos (by rfl)]
        have HBB := Lib.hid (HBWD.out.alloc HBWD.out.size (.cells #[] 3))
        have HCC := Lib.hid (col_start 3 1 HBWD.out)
        go_simp
        refine hK _ _ ⟨⟨⟨_, bthen HBD.out HBB.out HBD.out.size⟩, rfl⟩, ?_⟩
        clear hK K
        obtain ⟨Y0, hX⟩ : ∃ V, V = WD.alloc (.cells #[] 3) := ⟨_, rfl⟩
        rw [← hX]
        rw [← hX] at HBB HCC
        clear hX
        have HBY0 := HBB
        clear HBB
        have HCY0 := HCC
        clear HCC
        refine wpAnyN_two (i := 4) (i' := 6) (by kernel_rfl) ?_ ?_
        · refine wpOp_step rfl (fun K hK => ?_)
          rw [if_pos (by rfl)]
          refine wp_append_own _ _ _ 25 rfl WD.heap.size 3 i0 (.int .i64 0) 1 8 Try.underlying25 HI.out.1 HI.out.2.1 HI.out.2.2.1 HI.out.2.2.2 rfl (by decide) _ _ _ rfl HCY0.out.1 ⟨g, 0, none⟩ (k) (C) (ivs (xs.take k)) rfl (HLT.out) (HPA.out.next HCY0.out.2) (ivs_one _) (by unfold maxLen; omega) (by omega) HCY0.out.2.size ?_
          intro v' Y1 hown hgrow _
          have HCY1 := Lib.hid (HCY0.out.grow hown hgrow)
          clear hown hgrow
          refine hK _ _ ⟨⟨⟨_, bthen HBD.out HCY1.out.2 HBD.out.size⟩, rfl⟩, ?_⟩
          clear hK K
          refine wpAnyN_one (i := 6) (by kernel_rfl) ?_
          have HBY1 := Lib.hid HCY1.out.2
          refine wpOp_step rfl (fun K hK => ?_)
          rw [if_pos (by rfl)]
          have HBB := Lib.hid (HBY1.out.alloc HBY1.out.size (.cells #[.int .i64 x] 3))
          have HGG := Lib.hid (Has.new Y1 #[.int .i64 x] 3)
          have HCC := Lib.hid (HCY1.out.next (box1 (Below.refl _ _) (w := Y1) (cs := #[.int .i64 x]) (T := 3)).1)
          go_simp
          refine hK _ _ ⟨⟨⟨_, bthen HBD.out HBB.out HBD.out.size⟩, rfl⟩, ?_⟩
          clear hK K
          obtain ⟨Y2, hX⟩ : ∃ V, V = Y1.alloc (.cells #[.int .i64 x] 3) := ⟨_, rfl⟩
          rw [← hX]
          rw [← hX] at HBB HGG HCC
          clear hX
          have HBY2 := HBB
          clear HBB
          have HGY2 := HGG
          clear HGG
          have HCY2 := HCC
          clear HCC
          refine wpAnyN_one (i := 7) (by kernel_rfl) ?_
          refine wpOp_step rfl (fun K hK => ?_)
          rw [if_pos (by rfl)]
          refine wp_append_own _ _ _ 25 rfl WD.heap.size 3 i0 (.int .i64 0) 1 8 Try.underlying25 HI.out.1 HI.out.2.1 HI.out.2.2.1 HI.out.2.2.2 rfl (by decide) _ _ _ rfl HCY2.out.1 ⟨Y1.heap.size, 0, none⟩ (1) (1) ([.int .i64 x]) rfl (rfl) (part_boxJ HGY2.out) (by simp [Value.oneCell']) (by unfold maxLen; omega) (by omega) HCY2.out.2.size ?_
          intro v' Y3 hown hgrow _
          have HCY3 := Lib.hid (HCY2.out.grow hown hgrow)
          clear hown hgrow
          refine hK _ _ ⟨⟨⟨_, bthen HBD.out HCY3.out.2 HBD.out.size⟩, rfl⟩, ?_⟩
          clear hK K
          refine wpAnyN_one (i := 11) (by kernel_rfl) ?_
          refine wpOp_step rfl (fun K hK => ?_)
          rw [if_pos (by rfl)]
          refine wp_append_own _ _ _ 25 rfl WD.heap.size 3 i0 (.int .i64 0) 1 8 Try.underlying25 HI.out.1 HI.out.2.1 HI.out.2.2.1 HI.out.2.2.2 rfl (by decide) _ _ _ rfl HCY3.out.1 O3 (0) (C - k) (ivs (xs.drop k)) rfl (HLD.out) (HPB.out.next HCY3.out.2) (ivs_one _) (by unfold maxLen; omega) (by omega) HCY3.out.2.size ?_
          intro v' Y4 hown hgrow _
          have HCY4 := Lib.hid (HCY3.out.grow hown hgrow)
          clear hown hgrow
          refine hK _ _ ⟨⟨⟨_, bthen HBD.out HCY4.out.2 HBD.out.size⟩, rfl⟩, ?_⟩
          clear hK K
          have HF : Hid (Col w 3 1 v' (k + 1) (ivs (insL xs x)) Y4) := by
            have h := HCY4.out.1
            have e : 0 + k + 1 + (0) = k + 1 := by omega
            rw [e] at h
            have e2 : ivs (insL xs x) = [] ++ ivs (xs.take k) ++ [.int .i64 x] ++ ivs (xs.drop k) := by
              rw [HIQ.out]
              simp [ivs]
            rw [← e2] at h
            exact Lib.hid ⟨own_base h HBD.out.size, bthen HBD.out HCY4.out.2 HBD.out.size⟩
          refine wpAnyN_end rfl (by kernel_rfl) rfl ?_
          simp only [List.drop_succ_cons, List.drop_zero]
          go_wp2_with fail
          go_ret
          exact ⟨_, rfl, HF.out⟩
        · refine wpOp_step rfl (fun K hK => ?_)
          rw [if_pos (by rfl)]
          have HBB := Lib.hid (HBY0.out.alloc HBY0.out.size (.cells #[.int .i64 x] 3))
          have HGG := Lib.hid (Has.new Y0 #[.int .i64 x] 3)
          have HCC := Lib.hid (HCY0.out.next (box1 (Below.refl _ _) (w := Y0) (cs := #[.int .i64 x]) (T := 3)).1)
          go_simp
          refine hK _ _ ⟨⟨⟨_, bthen HBD.out HBB.out HBD.out.size⟩, rfl⟩, ?_⟩
          clear hK K
          obtain ⟨Y1, hX⟩ : ∃ V, V = Y0.alloc (.cells #[.int .i64 x] 3) := ⟨_, rfl⟩
          rw [← hX]
          rw [← hX] at HBB HGG HCC
          clear hX
          have HBY1 := HBB
          clear HBB
          have HGY1 := HGG
          clear HGG
          have HCY1 := HCC
          clear HCC
          refine wpAnyN_one (i := 4) (by kernel_rfl) ?_
          refine wpOp_step rfl (fun K hK => ?_)
          rw [if_pos (by rfl)]
          refine wp_append_own _ _ _ 25 rfl WD.heap.size 3 i0 (.int .i64 0) 1 8 Try.underlying25 HI.out.1 HI.out.2.1 HI.out.2.2.1 HI.out.2.2.2 rfl (by decide) _ _ _ rfl HCY1.out.1 ⟨g, 0, none⟩ (k) (C) (ivs (xs.take k)) rfl (HLT.out) (HPA.out.next HCY1.out.2) (ivs_one _) (by unfold maxLen; omega) (by omega) HCY1.out.2.size ?_
          intro v' Y2 hown hgrow _
          have HCY2 := Lib.hid (HCY1.out.grow hown hgrow)
          have HGY2 := Lib.hid (has_grown HGY1.out hgrow (row_apartJ HCY0.out.1))
          clear hown hgrow
          refine hK _ _ ⟨⟨⟨_, bthen HBD.out HCY2.out.2 HBD.out.size⟩, rfl⟩, ?_⟩
          clear hK K
          refine wpAnyN_one (i := 7) (by kernel_rfl) ?_
          refine wpOp_step rfl (fun K hK => ?_)
          rw [if_pos (by rfl)]
          refine wp_append_own _ _ _ 25 rfl WD.heap.size 3 i0 (.int .i64 0) 1 8 Try.underlying25 HI.out.1 HI.out.2.1 HI.out.2.2.1 HI.out.2.2.2 rfl (by decide) _ _ _ rfl HCY2.out.1 ⟨Y0.heap.size, 0, none⟩ (1) (1) ([.int .i64 x]) rfl (rfl) (part_boxJ HGY2.out) (by simp [Value.oneCell']) (by unfold maxLen; omega) (by omega) HCY2.out.2.size ?_
          intro v' Y3 hown hgrow _
          have HCY3 := Lib.hid (HCY2.out.grow hown hgrow)
          clear hown hgrow
          refine hK _ _ ⟨⟨⟨_, bthen HBD.out HCY3.out.2 HBD.out.size⟩, rfl⟩, ?_⟩
          clear hK K
          refine wpAnyN_one (i := 11) (by kernel_rfl) ?_
          refine wpOp_step rfl (fun K hK => ?_)
          rw [if_pos (by rfl)]
          refine wp_append_own _ _ _ 25 rfl WD.heap.size 3 i0 (.int .i64 0) 1 8 Try.underlying25 HI.out.1 HI.out.2.1 HI.out.2.2.1 HI.out.2.2.2 rfl (by decide) _ _ _ rfl HCY3.out.1 O3 (0) (C - k) (ivs (xs.drop k)) rfl (HLD.out) (HPB.out.next HCY3.out.2) (ivs_one _) (by unfold maxLen; omega) (by omega) HCY3.out.2.size ?_
          intro v' Y4 hown hgrow _
          have HCY4 := Lib.hid (HCY3.out.grow hown hgrow)
          clear hown hgrow
          refine hK _ _ ⟨⟨⟨_, bthen HBD.out HCY4.out.2 HBD.out.size⟩, rfl⟩, ?_⟩
          clear hK K
          have HF : Hid (Col w 3 1 v' (k + 1) (ivs (insL xs x)) Y4) := by
            have h := HCY4.out.1
            have e : 0 + k + 1 + (0) = k + 1 := by omega
            rw [e] at h
            have e2 : ivs (insL xs x) = [] ++ ivs (xs.take k) ++ [.int .i64 x] ++ ivs (xs.drop k) := by
              rw [HIQ.out]
              simp [ivs]
            rw [← e2] at h
            exact Lib.hid ⟨own_base h HBD.out.size, bthen HBD.out HCY4.out.2 HBD.out.size⟩
          refine wpAnyN_end rfl (by kernel_rfl) rfl ?_
          simp only [List.drop_succ_cons, List.drop_zero]
          go_wp2_with fail
          go_ret
          exact ⟨_, rfl, HF.out⟩
      · refine wpOp_step rfl (fun K hK => ?_)
        rw [if_pos (by rfl)]
        have HBB := Lib.hid (HBWD.out.alloc HBWD.out.size (.cells #[.int .i64 x] 3))
        have HGG := Lib.hid (Has.new WD #[.int .i64 x] 3)
        have HZZ : Hid ((WD.alloc (.cells #[.int .i64 x] 3)).heap.size = WD.heap.size + 1) := Lib.hid (World.size_alloc _ _)
        go_simp
        refine hK _ _ ⟨⟨⟨_, bthen HBD.out HBB.out HBD.out.size⟩, rfl⟩, ?_⟩
        clear hK K
        obtain ⟨Y0, hX⟩ : ∃ V, V = WD.alloc (.cells #[.int .i64 x] 3) := ⟨_, rfl⟩
        rw [← hX]
        rw [← hX] at HBB HGG HZZ
        clear hX
        have HBY0 := HBB
        clear HBB
        have HGY0 := HGG
        clear HGG
        have HZY : Hid (Y0.heap.size = WD.heap.size + 1) := HZZ
        refine wpAnyN_one (i := 0) (by kernel_rfl) ?_
        refine wpOp_step rfl (fun K hK => ?_)
        rw [if_pos (by rfl)]
        have HBB := Lib.hid (HBY0.out.alloc HBY0.out.size (.cells #[] 3))
        have HCC := Lib.hid (col_start 3 1 HBY0.out)
        have HGG := Lib.hid (HGY0.out.next (box1 (Below.refl _ _) (w := Y0) (cs := #[]) (T := 3)).1)
        go_simp
        refine hK _ _ ⟨⟨⟨_, bthen HBD.out HBB.out HBD.out.size⟩, rfl⟩, ?_⟩
        clear hK K
        obtain ⟨Y1, hX⟩ : ∃ V, V = Y0.alloc (.cells #[] 3) := ⟨_, rfl⟩
        rw [← hX]
        rw [← hX] at HBB HCC HGG
        clear hX
        have HBY1 := HBB
        clear HBB
        have HCY1 := HCC
        clear HCC
        have HGY1 := HGG
        clear HGG
        refine wpAnyN_one (i := 4) (by kernel_rfl) ?_
        refine wpOp_step rfl (fun K hK => ?_)
        rw [if_pos (by rfl)]
        refine wp_append_own _ _ _ 25 rfl WD.heap.size 3 i0 (.int .i64 0) 1 8 Try.underlying25 HI.out.1 HI.out.2.1 HI.out.2.2.1 HI.out.2.2.2 rfl (by decide) _ _ _ rfl HCY1.out.1 ⟨g, 0, none⟩ (k) (C) (ivs (xs.take k)) rfl (HLT.out) (HPA.out.next HCY1.out.2) (ivs_one _) (by unfold maxLen; omega) (by omega) HCY1.out.2.size ?_
        intro v' Y2 hown hgrow _
        have HCY2 := Lib.hid (HCY1.out.grow hown hgrow)
        have HGY2 := Lib.hid (has_grown HGY1.out hgrow (fun e => by have e2 : WD.heap.size = Y0.heap.size := Option.some.inj e; have := HZY.out; omega))
        clear hown hgrow
        refine hK _ _ ⟨⟨⟨_, bthen HBD.out HCY2.out.2 HBD.out.size⟩, rfl⟩, ?_⟩
        clear hK K
        refine wpAnyN_one (i := 7) (by kernel_rfl) ?_
        refine wpOp_step rfl (fun K hK => ?_)
        rw [if_pos (by rfl)]
        refine wp_append_own _ _ _ 25 rfl WD.heap.size 3 i0 (.int .i64 0) 1 8 Try.underlying25 HI.out.1 HI.out.2.1 HI.out.2.2.1 HI.out.2.2.2 rfl (by decide) _ _ _ rfl HCY2.out.1 ⟨WD.heap.size, 0, none⟩ (1) (1) ([.int .i64 x]) rfl (rfl) (part_boxJ HGY2.out) (by simp [Value.oneCell']) (by unfold maxLen; omega) (by omega) HCY2.out.2.size ?_
        intro v' Y3 hown hgrow _
        have HCY3 := Lib.hid (HCY2.out.grow hown hgrow)
        clear hown hgrow
        refine hK _ _ ⟨⟨⟨_, bthen HBD.out HCY3.out.2 HBD.out.size⟩, rfl⟩, ?_⟩
        clear hK K
        refine wpAnyN_one (i := 11) (by kernel_rfl) ?_
        refine wpOp_step rfl (fun K hK => ?_)
        rw [if_pos (by rfl)]
        refine wp_append_own _ _ _ 25 rfl WD.heap.size 3 i0 (.int .i64 0) 1 8 Try.underlying25 HI.out.1 HI.out.2.1 HI.out.2.2.1 HI.out.2.2.2 rfl (by decide) _ _ _ rfl HCY3.out.1 O3 (0) (C - k) (ivs (xs.drop k)) rfl (HLD.out) (HPB.out.next HCY3.out.2) (ivs_one _) (by unfold maxLen; omega) (by omega) HCY3.out.2.size ?_
        intro v' Y4 hown hgrow _
        have HCY4 := Lib.hid (HCY3.out.grow hown hgrow)
        clear hown hgrow
        refine hK _ _ ⟨⟨⟨_, bthen HBD.out HCY4.out.2 HBD.out.size⟩, rfl⟩, ?_⟩
        clear hK K
        have HF : Hid (Col w 3 1 v' (k + 1) (ivs (insL xs x)) Y4) := by
          have h := HCY4.out.1
          have e : 0 + k + 1 + (0) = k + 1 := by omega
          rw [e] at h
          have e2 : ivs (insL xs x) = [] ++ ivs (xs.take k) ++ [.int .i64 x] ++ ivs (xs.drop k) := by
            rw [HIQ.out]
            simp [ivs]
          rw [← e2] at h
          exact Lib.hid ⟨own_base h HBD.out.size, bthen HBD.out HCY4.out.2 HBD.out.size⟩
        refine wpAnyN_end rfl (by kernel_rfl) rfl ?_
        simp only [List.drop_succ_cons, List.drop_zero]
        go_wp2_with fail
        go_ret
        exact ⟨_, rfl, HF.out⟩
end Go.Proofs.Ytllfmjnniagjfaa
