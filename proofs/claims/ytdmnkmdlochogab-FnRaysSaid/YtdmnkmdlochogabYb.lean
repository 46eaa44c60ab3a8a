/-
  Bends: contracts of impl.BendOf, spec.BendOf over this translation. Conditions: stated at each theorem.
-/
import Derived.Test.YtdmnkmdlochogabYv
import Derived.Test.YtdmnkmdlochogabTc
import Derived.Test.YtdmnkmdlochogabCm
import Derived.Test.YtdmnkmdlochogabPerm
namespace Go.Proofs.Ytdmnkmdlochogab
open Go.RowKit
set_option linter.unusedVariables false

def bnD (l : List (Int × Int)) (i : Nat) : Int := sgn ((l.getD (i + 1) (0, 0)).2 - (l.getD i (0, 0)).2)
def bnK (l : List (Int × Int)) (k : Nat) : List Int := (List.range k).map (bnD l)
theorem bnK_succ (l : List (Int × Int)) (k : Nat) : bnK l (k + 1) = bnK l k ++ [bnD l k] := by
  unfold bnK; rw [List.range_succ, List.map_append]; rfl
theorem bnK_len (l : List (Int × Int)) (k : Nat) : (bnK l k).length = k := by simp [bnK]
theorem bnD_at {l : List (Int × Int)} {k : Nat} {x y x' y' : Int} (h : l[k + 1]? = some (x, y)) (h' : l[k]? = some (x', y')) : bnD l k = sgn (y - y') := by
  unfold bnD
  rw [List.getD_eq_getElem?_getD, List.getD_eq_getElem?_getD, h, h']; rfl
def bnR (l : List (Int × Int)) : List Int := if strB l then bnK l (l.length - 1) else []
def bnF (l : List (Int × Int)) : Nat → Int := fun j => (bnR l).getD j 0
theorem bnR_len (l : List (Int × Int)) : (bnR l).length ≤ 1048576 := by
  unfold bnR
  split
  · rename_i h
    have := (str_parts h).1
    rw [bnK_len]; omega
  · simp
theorem bn_no {l : List (Int × Int)} (h : strB l = false) : bnR l = [] := by unfold bnR; rw [h]; rfl
theorem bn_yes {l : List (Int × Int)} (h : strB l = true) : bnR l = bnK l (l.length - 1) := by unfold bnR; rw [h]; rfl
def BnPost (l : List (Int × Int)) (w : World) : Ending → World → Prop := IntsPost (bnR l) (bnF l) (strB l) w
theorem bn_end {l : List (Int × Int)} {L : List Int} {K : Bool} {w w' : World} {v : Value} {n : Nat} (h : Col w 3 1 v n (ivs L) w') (hn : L.length = n) (hL : bnR l = L) (hK : strB l = K) : BnPost l w (.returned (.tuple #[v, .bool K])) w' := by
  unfold BnPost bnF
  rw [hL, hK]
  exact ints_of_col h hn
theorem one_cell (w : World) (x : Value) (T : TypeId) : ∀ (j : Nat) (u : Value), [x][j]? = some u → (w.alloc (.cells #[x] T)).cell? ((⟨w.heap.size, 0, none⟩ : Addr).add j) = some u := by
  intro j u hu
  rcases j with _ | j
  · simp [Addr.add, World.cell?_alloc_new] at hu ⊢; exact hu
  · simp at hu
set_option maxRecDepth 20000 in
set_option maxHeartbeats 3200000 in
theorem bend_impl (A : Option Addr) (n c : Nat) (l : List (Int × Int)) (w : World) (hs : Spots w w.heap.size A n l) (hm : n ≤ maxLen) :
    Calls Try.prog 57 #[.slice A n c] w (BnPost l w) := by
  obtain rfl := hs.1
  obtain ⟨i0, hi, hz0, hz1, hz2⟩ := info_parts info3
  have HI := Lib.hid (And.intro hi (And.intro hz0 (And.intro hz1 hz2)))
  clear hi hz0 hz1 hz2
  have HS := Lib.hid hs
  clear hs
  rcases ht : strB l with _ | _
  · have HT := Lib.hid ht
    clear ht
    go_enter Try.func57, Try.ntmps57
    go_wp2_with fail
    refine (areSt_v _ _ _ l _ HT.out _ HS.out hm).mono ?_
    rintro e w1 ⟨rfl, hb⟩
    have HE := Lib.hid (bn_end (l := l) (L := []) (col_start 3 1 hb) rfl (bn_no HT.out) HT.out)
    clear hb
    go_wp2_with fail
    go_ret2
    exact HE.out
  have HT := Lib.hid ht
  obtain ⟨⟨h51, h52⟩, hg⟩ := str_parts ht
  have HG := Lib.hid hg
  clear ht hg
  go_enter Try.func57, Try.ntmps57
  go_wp2_with fail
  refine (areSt_v _ _ _ l _ HT.out _ HS.out hm).mono ?_
  rintro e w1 ⟨rfl, hb⟩
  have HN0 : Hid (Col w 3 1 (.slice (some ⟨w1.heap.size, 0, none⟩) 0 0) 0 (ivs (bnK l 0)) (w1.alloc (.cells #[] 3))) := Lib.hid (col_start 3 1 hb)
  clear hb
  go_wp2_with fail
  go_loopw [4, 5] (fun s i wr => ∃ (k : Nat) (v : Value), k + 1 ≤ l.length ∧ i = .int .i64 ((k : Int) + 1) ∧ s = v ∧ Hid (Col w 3 1 v k (ivs (bnK l k)) wr)) (fun _ i _ => l.length - (intOf i).toNat)
  case atStart => exact ⟨0, _, by omega, rfl, rfl, HN0⟩
  case round =>
    obtain ⟨k, v, hk, rfl, rfl, hR⟩ := hrel
    obtain ⟨W0, rfl⟩ : ∃ W : World, W = wr := ⟨_, rfl⟩
    have HSr := Lib.hid (spots_at HS.out hR.out.2)
    by_cases hlt : k + 1 < l.length
    · obtain ⟨b, o, x, y, rfl, hbl, hl, c0, c1⟩ := HSr.out.2 (k + 1) hlt
      obtain ⟨b', o', x', y', hA', hb', hl', d0, d1⟩ := HSr.out.2 k (by omega)
      obtain ⟨rfl, rfl⟩ : b = b' ∧ o = o' := by injection hA' with h; injection h with h h'; exact ⟨h, h'⟩
      have HV : Hid (bnK l (k + 1) = bnK l k ++ [sgn (y - y')]) := by unfold Hid; rw [bnK_succ, bnD_at hl hl']
      clear hl hl' hA' hb' c0 d0
      go_wp2_with fail
      have lc0 := lcell c1
      have lc1 := lcell d1
      refine region_perm (W := W0) 14 [0, 1, 2, 3, 4, 5, 6, 7, 8, 9, 10, 11] [12, 13] (by kernel_rfl) (by kernel_rfl) (Below.refl _ _) (fun d _ _ _ _ h => by cases d <;> exact h) ?_
      simp only [picks, List.getElem?_cons_succ, List.getElem?_cons_zero, List.drop_succ_cons, List.drop_zero]
      repeat (go_big_quiet_step (fail))
      refine wpQuiet_nil ?_
      intro W3 hW1
      have HL : Hid (Below W0.heap.size W0 W3) := by obtain ⟨x, rfl⟩ := hW1; exact Lib.hid x.below
      clear hW1 lc0 lc1 c1 d1
      have HR3 := Lib.hid (hR.out.next HL.out)
      simp only [wpMem]
      refine wpOp_step rfl (fun K hK => ?_)
      rw [if_pos (by rfl)]
      go_simp
      refine (cmp_any _ _ _).mono ?_
      rintro e w' ⟨rfl, rfl⟩
      refine hK _ _ ⟨⟨⟨_, HL.out⟩, rfl⟩, ?_⟩
      clear hK K
      refine wpOp_step rfl (fun K hK => ?_)
      rw [if_pos (by rfl)]
      go_simp
      refine hK _ _ ⟨⟨⟨_, HL.out.alloc HL.out.size _⟩, rfl⟩, ?_⟩
      clear hK K
      refine wpList_append_own _ rfl _ _ 36 rfl w.heap.size 3 i0 (.int .i64 0) 1 8 Try.underlying36 HI.out.1 HI.out.2.1 HI.out.2.2.1 HI.out.2.2.2 rfl (by decide) _ _ _ rfl (HR3.out.1.alloc _) ⟨W3.heap.size, 0, none⟩ 1 1 [.int .i64 (sgn (y - y'))] rfl rfl (one_cell _ _ _) (by simp [Value.oneCell']) (by unfold maxLen; omega) (by omega) (by have := HR3.out.2.size; simp; omega) ?_
      intro v' w5 hown' hgrow _
      have HN := Lib.hid (HR3.out.step hown' hgrow)
      clear hown' hgrow
      have hn3 := HN.out
      rw [← ivs_snoc, ← HV.out] at hn3
      have HN3 := Lib.hid hn3
      clear hn3
      go_wp2_with fail
      go_roundw
      case rel => exact ⟨k + 1, _, by omega, by go_num, rfl, HN3⟩
      case measure => simp [intOf]; omega
    · obtain hke : k = l.length - 1 := by omega
      have HE := Lib.hid (bn_end (K := true) (L := bnK l k) hR.out (bnK_len l k) ((bn_yes HT.out).trans (by rw [hke])) HT.out)
      clear hke
      go_wp2_with fail
      go_ret2
      exact HE.out
set_option maxRecDepth 20000 in
set_option maxHeartbeats 3200000 in
theorem bend_spec (A : Option Addr) (n c : Nat) (l : List (Int × Int)) (w : World) (hs : Spots w w.heap.size A n l) (hm : n ≤ maxLen) :
    Calls Try.prog 58 #[.slice A n c] w (BnPost l w) := by
  obtain rfl := hs.1
  obtain ⟨i0, hi, hz0, hz1, hz2⟩ := info_parts info3
  have HI := Lib.hid (And.intro hi (And.intro hz0 (And.intro hz1 hz2)))
  clear hi hz0 hz1 hz2
  have HS := Lib.hid hs
  clear hs
  have HS0 := Lib.hid (spots_alloc HS.out (.cells #[] 3))
  have HC : Hid (Col w 3 1 (.slice (some ⟨w.heap.size, 0, none⟩) 0 0) 0 (ivs (bnK l 0)) (w.alloc (.cells #[] 3))) := Lib.hid (col_start 3 1 (Below.refl _ _))
  rcases ht : strB l with _ | _
  · have HT := Lib.hid ht
    clear ht
    go_enter Try.func58, Try.ntmps58
    go_wp2_with fail
    refine (goodS_v _ _ _ l _ HT.out _ HS0.out hm).mono ?_
    rintro e w1 ⟨rfl, rfl⟩
    have HE := Lib.hid (bn_end (l := l) (L := []) HC.out rfl (bn_no HT.out) HT.out)
    go_wp2_with fail
    go_ret2
    exact HE.out
  have HT := Lib.hid ht
  obtain ⟨⟨h51, h52⟩, hg⟩ := str_parts ht
  have HG := Lib.hid hg
  clear ht hg
  go_enter Try.func58, Try.ntmps58
  go_wp2_with fail
  refine (goodS_v _ _ _ l _ HT.out _ HS0.out hm).mono ?_
  rintro e w1 ⟨rfl, rfl⟩
  go_wp2_with fail
  go_loopw [4, 5] (fun s i wr => ∃ (k : Nat) (v : Value), k + 1 ≤ l.length ∧ i = .int .i64 ((k : Int) + 1) ∧ s = v ∧ Hid (Col w 3 1 v k (ivs (bnK l k)) wr)) (fun _ i _ => l.length - (intOf i).toNat)
  case atStart => exact ⟨0, _, by omega, rfl, rfl, HC⟩
  case round =>
    obtain ⟨k, v, hk, rfl, rfl, hR⟩ := hrel
    obtain ⟨W0, rfl⟩ : ∃ W : World, W = wr := ⟨_, rfl⟩
    have HSr := Lib.hid (spots_at HS.out hR.out.2)
    by_cases hlt : k + 1 < l.length
    · obtain ⟨b, o, x, y, rfl, hbl, hl, c0, c1⟩ := HSr.out.2 (k + 1) hlt
      obtain ⟨b', o', x', y', hA', hb', hl', d0, d1⟩ := HSr.out.2 k (by omega)
      obtain ⟨rfl, rfl⟩ : b = b' ∧ o = o' := by injection hA' with h; injection h with h h'; exact ⟨h, h'⟩
      obtain ⟨z, hz⟩ : ∃ z, sgn (y - y') = z := ⟨_, rfl⟩
      have HV : Hid (bnK l (k + 1) = bnK l k ++ [z]) := by unfold Hid; rw [bnK_succ, bnD_at hl hl', hz]
      clear hl hl' hA' hb' c0 d0
      have hcs : (y' < y ∧ 1 = z) ∨ (y < y' ∧ -1 = z) ∨ (y = y' ∧ 0 = z) := by
        rcases Int.lt_trichotomy y y' with h | h | h
        · exact .inr (.inl ⟨h, by rw [← hz, sgn_neg (by omega)]⟩)
        · exact .inr (.inr ⟨h, by rw [← hz, sgn_zero (by omega)]⟩)
        · exact .inl ⟨h, by rw [← hz, sgn_pos (by omega)]⟩
      have hdd : (decide (y' < y) = true ∧ decide (y < y') = false ∧ 1 = z) ∨ (decide (y' < y) = false ∧ decide (y < y') = true ∧ -1 = z) ∨ (decide (y' < y) = false ∧ decide (y < y') = false ∧ 0 = z) := by
        rcases hcs with ⟨h, e⟩ | ⟨h, e⟩ | ⟨h, e⟩
        · exact .inl ⟨decide_eq_true h, decide_eq_false (by omega), e⟩
        · exact .inr (.inl ⟨decide_eq_false (by omega), decide_eq_true h, e⟩)
        · exact .inr (.inr ⟨decide_eq_false (by omega), decide_eq_false (by omega), e⟩)
      clear hcs hz
      rcases hdd with ⟨e1, e2, rfl⟩ | ⟨e1, e2, rfl⟩ | ⟨e1, e2, rfl⟩
      all_goals
        go_wp2_with fail
        have lc0 := lcell (c1)
        have lc1 := lcell (d1)
        refine region_later (W := W0) (by kernel_rfl) (by kernel_rfl) (Below.refl _ _) ?_
        repeat (go_big_quiet_step (fail))
        refine wpQuiet_nil ?_
        intro W2 hW1
        have HL : Hid (Below W0.heap.size W0 W2) := by obtain ⟨x, rfl⟩ := hW1; exact Lib.hid x.below
        clear hW1 lc0 lc1
        have HR2 := Lib.hid (hR.out.next HL.out)
        have c1' := cell_next HL.out c1
        have d1' := cell_next HL.out d1
        clear c1 d1 HL
        go_wp2_with fail
        have lc0 := lcell (c1')
        have lc1 := lcell (d1')
        refine region_later (W := W2) (by kernel_rfl) (by kernel_rfl) (Below.refl _ _) ?_
        repeat (go_big_quiet_step (fail))
        refine wpQuiet_nil ?_
        intro W3 hW1
        have HL : Hid (Below W2.heap.size W2 W3) := by obtain ⟨x, rfl⟩ := hW1; exact Lib.hid x.below
        clear hW1 lc0 lc1
        have HR3 := Lib.hid (HR2.out.next HL.out)
        clear c1' d1' HL
        go_wp2_with (at_builtin; go_loud (refine wpList_append_own _ rfl _ _ 36 rfl w.heap.size 3 i0 (.int .i64 0) 1 8 Try.underlying36 HI.out.1 HI.out.2.1 HI.out.2.2.1 HI.out.2.2.2 rfl (by decide) _ _ _ rfl (HR3.out.1.alloc _) ⟨W3.heap.size, 0, none⟩ 1 1 [.int .i64 _] rfl rfl (one_cell _ _ _) (by simp [Value.oneCell']) (by unfold maxLen; omega) (by omega) (by have := HR3.out.2.size; simp; omega) ?_; intro v' w5 hown' hgrow _; have HN := Lib.hid (HR3.out.step hown' hgrow); clear hown' hgrow))
        have hn3 := HN.out
        rw [← ivs_snoc, ← HV.out] at hn3
        have HN3 := Lib.hid hn3
        clear hn3
        go_roundw
      all_goals first
        | exact ⟨k + 1, _, by omega, by go_num, rfl, HN3⟩
        | (simp [intOf]; omega)
    · obtain hke : k = l.length - 1 := by omega
      have HE := Lib.hid (bn_end (K := true) (L := bnK l k) hR.out (bnK_len l k) ((bn_yes HT.out).trans (by rw [hke])) HT.out)
      clear hke
      go_wp2_with fail
      go_ret2
      exact HE.out
end Go.Proofs.Ytdmnkmdlochogab
