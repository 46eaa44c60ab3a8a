/-
  Shoaler places and kept depths, the law's model: contracts of spec.WhereShoaler, KeptDepths over this translation. Conditions: stated at each theorem.
-/
import Derived.Test.YtjekmmekkfmplaaEw
namespace Go.Proofs.Ytjekmmekkfmplaa
open Go.RowKit
set_option linter.unusedVariables false

theorem ie_no {L : List Int} {K : Bool} {w w' : World} {v : Value} (h : L = [] ∧ K = false) (hc : Col w 3 1 v 0 [] w') : IntsPost L (fun j => L.getD j 0) K w (.returned (.tuple #[v, .bool false])) w' := by
  obtain ⟨rfl, rfl⟩ := h
  exact ints_of_col hc rfl
theorem ie_yes {L M : List Int} {K : Bool} {w w' : World} {v : Value} {m : Nat} (h : L = M ∧ K = true) (hc : Col w 3 1 v m (ivs M) w') : IntsPost L (fun j => L.getD j 0) K w (.returned (.tuple #[v, .bool true])) w' := by
  obtain ⟨rfl, rfl⟩ := h
  exact ints_of_col hc (col_lenJ hc).symm
/-! ### Shoaler places -/
def wsK (T U : List Int) : Bool := trB T && trB U && decide (U.length = T.length)
def wsR (T U : List Int) : List Int := if wsK T U then wsL T U T.length else []
theorem ws_no {T U : List Int} (h : wsK T U = false) : wsR T U = [] ∧ wsK T U = false := ⟨by unfold wsR; rw [h]; rfl, h⟩
theorem ws_yes {T U : List Int} (h : wsK T U = true) : wsR T U = wsL T U T.length ∧ wsK T U = true := ⟨by unfold wsR; rw [h, if_pos rfl], h⟩
theorem ws_1 {T U : List Int} (h : trB T = false) : wsK T U = false := by unfold wsK; rw [h]; rfl
theorem ws_2 {T U : List Int} (h : trB U = false) : wsK T U = false := by unfold wsK; rw [h, Bool.and_false]; rfl
theorem ws_3 {T U : List Int} (h : ¬ U.length = T.length) : wsK T U = false := by unfold wsK; rw [decide_eq_false h, Bool.and_false]
theorem ws_4 {T U : List Int} (h1 : trB T = true) (h2 : trB U = true) (h3 : U.length = T.length) : wsK T U = true := by unfold wsK; rw [h1, h2, decide_eq_true h3]; rfl
theorem wsL_no {T U : List Int} {k : Nat} {x y : Int} (hx : T.getD k 0 = x) (hy : U.getD k 0 = y) (h : ¬ x < y) : wsL T U (k + 1) = wsL T U k := coL_no (by rw [hx, hy]; exact decide_eq_false h)
theorem wsL_yes {T U : List Int} {k : Nat} {x y : Int} (hx : T.getD k 0 = x) (hy : U.getD k 0 = y) (h : x < y) : wsL T U (k + 1) = wsL T U k ++ [(k : Int)] := coL_yes (by rw [hx, hy]; exact decide_eq_true h)
set_option maxRecDepth 20000 in
set_option maxHeartbeats 6400000 in
theorem where_spec (A A' : Option Addr) (C C' lo hi lo' hi' : Nat) (T U : List Int) (w : World) (ht : IFun w lo hi A T.length (fun j => T.getD j 0)) (hh : hi ≤ w.heap.size) (hm : T.length ≤ 1048576)
    (hu : IFun w lo' hi' A' U.length (fun j => U.getD j 0)) (hh2 : hi' ≤ w.heap.size) (hm2 : U.length ≤ 1048576) :
    Calls Try.prog 47 #[.slice A T.length C, .slice A' U.length C'] w (IntsPost (wsR T U) (fun j => (wsR T U).getD j 0) (wsK T U) w) := by
  obtain ⟨i0, hi, hz0, hz1, hz2⟩ := info_parts info3
  have HJ := Lib.hid (And.intro hi (And.intro hz0 (And.intro hz1 hz2)))
  clear hi hz0 hz1 hz2
  have HI := Lib.hid ht
  have HU := Lib.hid hu
  clear ht hu
  obtain ⟨W0, hW0⟩ : ∃ W0, W0 = w.alloc (.cells #[] 3) := ⟨_, rfl⟩
  have HC0 : Hid (Col w 3 1 (.slice (some ⟨w.heap.size, 0, none⟩) 0 0) 0 (ivs []) W0) := by rw [hW0]; exact Lib.hid (col_start 3 1 (Below.refl _ _))
  have HE0 := Lib.hid hW0
  clear hW0
  rcases h1 : trB T with _ | _
  · have H1 := Lib.hid h1
    have HP := Lib.hid (ws_no (ws_1 (U := U) h1))
    clear h1
    go_enter Try.func47, Try.ntmps47
    go_wp2_with fail
    rw [← HE0.out]
    refine (goodE_spec _ _ _ _ _ _ H1.out _ (HI.out.on HC0.out.2 hh) hm).mono ?_
    rintro e w' ⟨rfl, rfl⟩
    go_wp2_with fail
    go_ret2
    exact ie_no HP.out HC0.out
  rcases h2 : trB U with _ | _
  · have H1 := Lib.hid h1
    have H2 := Lib.hid h2
    have HP := Lib.hid (ws_no (ws_2 (T := T) h2))
    clear h1 h2
    go_enter Try.func47, Try.ntmps47
    go_wp2_with fail
    rw [← HE0.out]
    refine (goodE_spec _ _ _ _ _ _ H1.out _ (HI.out.on HC0.out.2 hh) hm).mono ?_
    rintro e w' ⟨rfl, rfl⟩
    go_wp2_with fail
    refine (goodE_spec _ _ _ _ _ _ H2.out _ (HU.out.on HC0.out.2 hh2) hm2).mono ?_
    rintro e w' ⟨rfl, rfl⟩
    go_wp2_with fail
    go_ret2
    exact ie_no HP.out HC0.out
  by_cases h3 : U.length = T.length
  case neg =>
    have H1 := Lib.hid h1
    have H2 := Lib.hid h2
    have HP := Lib.hid (ws_no (ws_3 (T := T) h3))
    clear h1 h2
    go_enter Try.func47, Try.ntmps47
    go_wp2_with fail
    rw [← HE0.out]
    refine (goodE_spec _ _ _ _ _ _ H1.out _ (HI.out.on HC0.out.2 hh) hm).mono ?_
    rintro e w' ⟨rfl, rfl⟩
    go_wp2_with fail
    refine (goodE_spec _ _ _ _ _ _ H2.out _ (HU.out.on HC0.out.2 hh2) hm2).mono ?_
    rintro e w' ⟨rfl, rfl⟩
    go_wp2_with fail
    go_ret2
    exact ie_no HP.out HC0.out
  have HP := Lib.hid (ws_yes (ws_4 h1 h2 h3))
  have h30 := (trk_of h1).hi
  have H1 := Lib.hid h1
  have H2 := Lib.hid h2
  have H3 := Lib.hid h3
  clear h1 h2 h3
  go_enter Try.func47, Try.ntmps47
  go_wp2_with fail
  rw [← HE0.out]
  refine (goodE_spec _ _ _ _ _ _ H1.out _ (HI.out.on HC0.out.2 hh) hm).mono ?_
  rintro e w' ⟨rfl, rfl⟩
  go_wp2_with fail
  refine (goodE_spec _ _ _ _ _ _ H2.out _ (HU.out.on HC0.out.2 hh2) hm2).mono ?_
  rintro e w' ⟨rfl, rfl⟩
  have h3 := H3.out
  go_wp2_with fail
  have HC1 : Hid (Col w 3 1 (.slice (some ⟨w.heap.size, 0, none⟩) 0 0) 0 (ivs (wsL T U 0)) W0) := HC0
  go_loopw [6, 7] (fun s i wr => ∃ (k m g C : Nat), k ≤ T.length ∧ m ≤ k ∧ i = .int .i64 k ∧ s = .slice (some ⟨g, 0, none⟩) m C ∧ Hid (Col w 3 1 (.slice (some ⟨g, 0, none⟩) m C) m (ivs (wsL T U k)) wr)) (fun _ i _ => T.length - (intOf i).toNat)
  case atStart => exact ⟨0, 0, _, 0, Nat.zero_le _, Nat.le_refl _, rfl, rfl, HC1⟩
  case round =>
    obtain ⟨k, m, g, C, hk, hmk, rfl, rfl, hC⟩ := hrel
    by_cases hlt : k < T.length
    · obtain ⟨b, rfl, hlo, hhi, c0, hf⟩ := (HI.out.on hC.out.2 hh) k hlt
      clear hf
      obtain ⟨b', rfl, hlo', hhi', d0, hf⟩ := (HU.out.on hC.out.2 hh2) k (by omega)
      clear hf
      obtain ⟨x, hx⟩ : ∃ x, T.getD k 0 = x := ⟨_, rfl⟩
      obtain ⟨y, hy⟩ : ∃ y, U.getD k 0 = y := ⟨_, rfl⟩
      dsimp only at c0 d0
      rw [hx] at c0
      rw [hy] at d0
      obtain ⟨W0, rfl⟩ : ∃ W : World, W = wr := ⟨_, rfl⟩
      by_cases hxy : x < y
      · have hd : decide (x < y) = true := decide_eq_true hxy
        have HT := Lib.hid (wsL_yes hx hy hxy)
        clear hx hy
        go_wp2_with fail
        have lc0 := lcell (c0)
        have lc1 := lcell (d0)
        refine region_later (W := W0) (by kernel_rfl) (by kernel_rfl) (Below.refl _ _) ?_
        repeat (go_big_quiet_step ((fail)))
        refine wpQuiet_nil ?_
        intro W1 hW1
        have HL : Hid (Below W0.heap.size W0 W1) := by obtain ⟨x, rfl⟩ := hW1; exact Lib.hid x.below
        clear hW1 lc0 lc1
        have HC2 := Lib.hid (hC.out.next HL.out)
        clear c0 d0
        go_wp2_with (at_builtin; go_loud (refine wpList_append_own_at _ rfl _ _ 24 rfl w.heap.size 3 i0 (.int .i64 0) 1 8 Try.underlying24 HJ.out.1 HJ.out.2.1 HJ.out.2.2.1 HJ.out.2.2.2 rfl (by decide) _ _ _ rfl (HC2.out.1.alloc _) ⟨W1.heap.size, 0, none⟩ 1 1 [.int .i64 k] rfl rfl (one_newJ _ _ _) (by simp [Value.oneCell']) (by unfold maxLen; omega) (by omega) (by have := HC2.out.2.size; simp; omega) ?_; intro v' w5 hown' hgrow _ hfr; have HN := Lib.hid (HC2.out.step hown' hgrow); clear hown' hgrow hfr))
        obtain ⟨g5, C5, rfl, _, _⟩ := own_capsJ HN.out.1
        have HC9 : Hid (Col w 3 1 (.slice (some ⟨g5, 0, none⟩) (m + 1) C5) (m + 1) (ivs (wsL T U (k + 1))) w5) := by unfold Hid; rw [HT.out, ivs_snoc]; exact HN.out
        clear HN
        go_roundw
        case rel => exact ⟨k + 1, m + 1, g5, C5, by omega, by omega, by go_num, rfl, HC9⟩
        case measure => simp [intOf]; omega
      · have hd : decide (x < y) = false := decide_eq_false hxy
        have HT := Lib.hid (wsL_no hx hy hxy)
        clear hx hy
        go_wp2_with fail
        have lc0 := lcell (c0)
        have lc1 := lcell (d0)
        refine region_later (W := W0) (by kernel_rfl) (by kernel_rfl) (Below.refl _ _) ?_
        repeat (go_big_quiet_step ((fail)))
        refine wpQuiet_nil ?_
        intro W1 hW1
        have HL : Hid (Below W0.heap.size W0 W1) := by obtain ⟨x, rfl⟩ := hW1; exact Lib.hid x.below
        clear hW1 lc0 lc1
        have HC2 : Hid (Col w 3 1 (.slice (some ⟨g, 0, none⟩) m C) m (ivs (wsL T U (k + 1))) W1) := by unfold Hid; rw [HT.out]; exact hC.out.next HL.out
        clear c0 d0
        go_wp2_with fail
        go_roundw
        case rel => exact ⟨k + 1, m, g, C, by omega, by omega, by go_num, rfl, HC2⟩
        case measure => simp [intOf]; omega
    · obtain rfl : k = T.length := by omega
      go_wp2_with fail
      go_ret2
      exact ie_yes HP.out hC.out
/-! ### Kept depths -/
def ktK (T K : List Int) : Bool := trB T && decide (K.length = T.length) && keB K K.length
def ktR (T K : List Int) : List Int := if ktK T K then ktL T K K.length else []
theorem kt_no {T K : List Int} (h : ktK T K = false) : ktR T K = [] ∧ ktK T K = false := ⟨by unfold ktR; rw [h]; rfl, h⟩
theorem kt_yes {T K : List Int} (h : ktK T K = true) : ktR T K = ktL T K K.length ∧ ktK T K = true := ⟨by unfold ktR; rw [h, if_pos rfl], h⟩
theorem kt_1 {T K : List Int} (h : trB T = false) : ktK T K = false := by unfold ktK; rw [h]; rfl
theorem kt_2 {T K : List Int} (h : ¬ K.length = T.length) : ktK T K = false := by unfold ktK; rw [decide_eq_false h, Bool.and_false]; rfl
theorem kt_3 {T K : List Int} {k : Nat} (h : k < K.length) (hb : inB (K.getD k 0) 0 1 = false) : ktK T K = false := by unfold ktK; rw [keB_bad h hb, Bool.and_false]
theorem kt_4 {T K : List Int} (h1 : trB T = true) (h2 : K.length = T.length) (h3 : keB K K.length = true) : ktK T K = true := by unfold ktK; rw [h1, decide_eq_true h2, h3]; rfl
theorem ktL_no {T K : List Int} {k : Nat} {y : Int} (hy : K.getD k 0 = y) (h : ¬ y = 1) : ktL T K (k + 1) = ktL T K k := coL_no (by rw [hy]; exact decide_eq_false h)
theorem ktL_yes {T K : List Int} {k : Nat} {x y : Int} (hx : T.getD k 0 = x) (hy : K.getD k 0 = y) (h : y = 1) : ktL T K (k + 1) = ktL T K k ++ [x] := by
  rw [← hx]
  exact coL_yes (by rw [hy]; exact decide_eq_true h)
set_option maxRecDepth 20000 in
set_option maxHeartbeats 6400000 in
theorem kept_spec (A A' : Option Addr) (C C' lo hi lo' hi' : Nat) (T U : List Int) (w : World) (ht : IFun w lo hi A T.length (fun j => T.getD j 0)) (hh : hi ≤ w.heap.size) (hm : T.length ≤ 1048576)
    (hu : IFun w lo' hi' A' U.length (fun j => U.getD j 0)) (hh2 : hi' ≤ w.heap.size) (hm2 : U.length ≤ 1048576) :
    Calls Try.prog 31 #[.slice A T.length C, .slice A' U.length C'] w (IntsPost (ktR T U) (fun j => (ktR T U).getD j 0) (ktK T U) w) := by
  obtain ⟨i0, hi, hz0, hz1, hz2⟩ := info_parts info3
  have HJ := Lib.hid (And.intro hi (And.intro hz0 (And.intro hz1 hz2)))
  clear hi hz0 hz1 hz2
  have HI := Lib.hid ht
  have HU := Lib.hid hu
  clear ht hu
  obtain ⟨W0, hW0⟩ : ∃ W0, W0 = w.alloc (.cells #[] 3) := ⟨_, rfl⟩
  have HC0 : Hid (Col w 3 1 (.slice (some ⟨w.heap.size, 0, none⟩) 0 0) 0 (ivs []) W0) := by rw [hW0]; exact Lib.hid (col_start 3 1 (Below.refl _ _))
  have HE0 := Lib.hid hW0
  clear hW0
  rcases h1 : trB T with _ | _
  · have H1 := Lib.hid h1
    have HP := Lib.hid (kt_no (kt_1 (K := U) h1))
    clear h1
    go_enter Try.func31, Try.ntmps31
    go_wp2_with fail
    rw [← HE0.out]
    refine (goodE_spec _ _ _ _ _ _ H1.out _ (HI.out.on HC0.out.2 hh) hm).mono ?_
    rintro e w' ⟨rfl, rfl⟩
    go_wp2_with fail
    go_ret2
    exact ie_no HP.out HC0.out
  by_cases h3 : U.length = T.length
  case neg =>
    have H1 := Lib.hid h1
    have HP := Lib.hid (kt_no (kt_2 (T := T) h3))
    clear h1
    go_enter Try.func31, Try.ntmps31
    go_wp2_with fail
    rw [← HE0.out]
    refine (goodE_spec _ _ _ _ _ _ H1.out _ (HI.out.on HC0.out.2 hh) hm).mono ?_
    rintro e w' ⟨rfl, rfl⟩
    go_wp2_with fail
    go_ret2
    exact ie_no HP.out HC0.out
  have h30 := (trk_of h1).hi
  have HB9 : Hid (∀ k, k < U.length → inB (U.getD k 0) 0 1 = false → ktR T U = [] ∧ ktK T U = false) := Lib.hid fun k hk hb => kt_no (kt_3 hk hb)
  have HY9 : Hid (keB U U.length = true → ktR T U = ktL T U U.length ∧ ktK T U = true) := Lib.hid fun h => kt_yes (kt_4 h1 h3 h)
  have H1 := Lib.hid h1
  clear h1
  go_enter Try.func31, Try.ntmps31
  go_wp2_with fail
  rw [← HE0.out]
  refine (goodE_spec _ _ _ _ _ _ H1.out _ (HI.out.on HC0.out.2 hh) hm).mono ?_
  rintro e w' ⟨rfl, rfl⟩
  go_wp2_with fail
  have HC1 : Hid (Col w 3 1 (.slice (some ⟨w.heap.size, 0, none⟩) 0 0) 0 (ivs (ktL T U 0)) W0) := HC0
  go_loopw [6, 7] (fun s i wr => ∃ (k m g C : Nat), k ≤ U.length ∧ m ≤ k ∧ i = .int .i64 k ∧ s = .slice (some ⟨g, 0, none⟩) m C ∧ Hid (keB U k = true) ∧ Hid (Col w 3 1 (.slice (some ⟨g, 0, none⟩) m C) m (ivs (ktL T U k)) wr)) (fun _ i _ => U.length - (intOf i).toNat)
  case atStart => exact ⟨0, 0, _, 0, Nat.zero_le _, Nat.le_refl _, rfl, rfl, Lib.hid rfl, HC1⟩
  case round =>
    obtain ⟨k, m, g, C, hk, hmk, rfl, rfl, hA, hC⟩ := hrel
    by_cases hlt : k < U.length
    · obtain ⟨b, rfl, hlo, hhi, c0, hf⟩ := (HI.out.on hC.out.2 hh) k (by omega)
      clear hf
      obtain ⟨b', rfl, hlo', hhi', d0, hf⟩ := (HU.out.on hC.out.2 hh2) k hlt
      clear hf
      obtain ⟨x, hx⟩ : ∃ x, T.getD k 0 = x := ⟨_, rfl⟩
      obtain ⟨y, hy⟩ : ∃ y, U.getD k 0 = y := ⟨_, rfl⟩
      dsimp only at c0 d0
      rw [hx] at c0
      rw [hy] at d0
      rcases h5 : inB y 0 1 with _ | _
      · have H5 := Lib.hid h5
        have HP := Lib.hid (HB9.out k hlt (by rw [hy]; exact h5))
        have HCE := Lib.hid (col_start 3 1 hC.out.2)
        clear h5 hx hy
        go_wp2_with fail
        refine (l1In_v _ _ _ _ H5.out _).mono ?_
        rintro e w' ⟨rfl, rfl⟩
        go_wp2_with fail
        go_ret2
        exact ie_no HP.out HCE.out
      have H5 := Lib.hid h5
      have HA2 : Hid (keB U (k + 1) = true) := Lib.hid (by rw [keB_succ, hA.out, hy, h5]; rfl)
      clear h5
      by_cases h6 : y = 1
      · have hd : (y == 1) = true := beq_iff_eq.2 h6
        have HT := Lib.hid (ktL_yes hx hy h6)
        clear hx hy h6
        go_wp2_with fail
        refine (l1In_v _ _ _ _ H5.out _).mono ?_
        rintro e w' ⟨rfl, hw'⟩
        obtain rfl := hw'
        go_wp2_with (at_builtin; go_loud (refine wpList_append_own_at _ rfl _ _ 24 rfl w.heap.size 3 i0 (.int .i64 0) 1 8 Try.underlying24 HJ.out.1 HJ.out.2.1 HJ.out.2.2.1 HJ.out.2.2.2 rfl (by decide) _ _ _ rfl (hC.out.1.alloc _) ⟨wr.heap.size, 0, none⟩ 1 1 [.int .i64 x] rfl rfl (one_newJ _ _ _) (by simp [Value.oneCell']) (by unfold maxLen; omega) (by omega) (by have := hC.out.2.size; simp; omega) ?_; intro v' w5 hown' hgrow _ hfr; have HN := Lib.hid (hC.out.step hown' hgrow); clear hown' hgrow hfr))
        obtain ⟨g5, C5, rfl, _, _⟩ := own_capsJ HN.out.1
        have HC9 : Hid (Col w 3 1 (.slice (some ⟨g5, 0, none⟩) (m + 1) C5) (m + 1) (ivs (ktL T U (k + 1))) w5) := by unfold Hid; rw [HT.out, ivs_snoc]; exact HN.out
        clear HN c0 d0
        go_roundw
        case rel => exact ⟨k + 1, m + 1, g5, C5, by omega, by omega, by go_num, rfl, HA2, HC9⟩
        case measure => simp [intOf]; omega
      · have hd : (y == 1) = false := beq_eq_false_iff_ne.2 h6
        have HT := Lib.hid (ktL_no (T := T) hy h6)
        have HC2 : Hid (Col w 3 1 (.slice (some ⟨g, 0, none⟩) m C) m (ivs (ktL T U (k + 1))) wr) := by unfold Hid; rw [HT.out]; exact hC.out
        clear hx hy h6
        go_wp2_with fail
        refine (l1In_v _ _ _ _ H5.out _).mono ?_
        rintro e w' ⟨rfl, hw'⟩
        obtain rfl := hw'
        go_wp2_with fail
        go_roundw
        case rel => exact ⟨k + 1, m, g, C, by omega, by omega, by go_num, rfl, HA2, HC2⟩
        case measure => simp [intOf]; omega
    · obtain rfl : k = U.length := by omega
      have HP := Lib.hid (HY9.out hA.out)
      go_wp2_with fail
      go_ret2
      exact ie_yes HP.out hC.out
end Go.Proofs.Ytjekmmekkfmplaa
