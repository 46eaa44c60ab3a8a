/-
  Roughness, smooth parts, shoaler places and kept depths, the program: contracts of impl.RoughnessOf, LongestSmooth, WhereShoaler, KeptDepths over this translation. Conditions: stated at each theorem.
-/
import Derived.Test.YtjekmmekkfmplaaEx
import Derived.Test.YtjekmmekkfmplaaEc
import Derived.Test.YtjekmmekkfmplaaMw
namespace Go.Proofs.Ytjekmmekkfmplaa
open Go.RowKit
set_option linter.unusedVariables false

set_option maxRecDepth 20000 in
set_option maxHeartbeats 3200000 in
theorem rough_impl (A : Option Addr) (C lo hi : Nat) (T : List Int) (w : World) (ht : IFun w lo hi A T.length (fun j => T.getD j 0)) (hh : hi ≤ w.heap.size) (hm : T.length ≤ 1048576) (hcap : T.length ≤ C) :
    Calls Try.prog 39 #[.slice A T.length C] w (Num2E (rhR T) (trB T) w) := by
  have HI := Lib.hid ht
  clear ht
  rcases h1 : trB T with _ | _
  · have H1 := Lib.hid h1
    have HP := Lib.hid (rh_no h1)
    clear h1
    go_enter Try.func39, Try.ntmps39
    go_wp2_with fail
    refine (isTrE_impl _ _ _ _ _ _ H1.out _ HI.out hm).mono ?_
    rintro e w' ⟨rfl, rfl⟩
    go_wp2_with fail
    go_ret2
    exact num2E_is ⟨HP.out.1, rfl⟩ (Below.refl _ _)
  have H1 := Lib.hid h1
  have HT := Lib.hid (trk_of h1)
  have h30 := (trk_of h1).hi
  have h3 := (trk_of h1).lo
  clear h1
  obtain ⟨b, rfl, _⟩ := HI.out 0 (by omega)
  go_enter Try.func39, Try.ntmps39
  go_wp2_with fail
  refine (isTrE_impl _ _ _ _ _ _ H1.out _ HI.out hm).mono ?_
  rintro e w' ⟨rfl, rfl⟩
  go_wp2_with fail
  go_loopw [4, 13] (fun q i wr => ∃ (k : Nat) (s : Int), k + 1 ≤ T.length ∧ i = .int .i64 k ∧ q = .int .i64 s ∧ Hid (s = rgS T k) ∧ (0 ≤ s ∧ s ≤ 21000 * (k : Int)) ∧ Hid (w = wr)) (fun _ i _ => T.length - (intOf i).toNat)
  case atStart => exact ⟨0, 0, by omega, rfl, rfl, Lib.hid rfl, by omega, Lib.hid rfl⟩
  case round =>
    obtain ⟨j, s, hk, rfl, rfl, hS, hs, hW⟩ := hrel
    obtain rfl := hW.out
    by_cases hlt : j + 1 < T.length
    · skip
      obtain ⟨g, e', hlo, hhi, c0, hf⟩ := HI.out (j + 1) hlt
      clear hf
      obtain rfl : b = g := by injection e' with h; injection h
      clear e'
      obtain ⟨g', e', hlo', hhi', d0, hf⟩ := HI.out j (by omega)
      clear hf
      obtain rfl : b = g' := by injection e' with h; injection h
      clear e'
      obtain ⟨x1, x2⟩ := HT.out.one (j + 1) hlt
      obtain ⟨y1, y2⟩ := HT.out.one j (by omega)
      obtain ⟨x, hx⟩ : ∃ x, T.getD (j + 1) 0 = x := ⟨_, rfl⟩
      obtain ⟨y, hy⟩ : ∃ y, T.getD j 0 = y := ⟨_, rfl⟩
      obtain ⟨v, hv⟩ : ∃ v, szE (x - y) = v := ⟨_, rfl⟩
      have hv2 : 0 ≤ v ∧ v ≤ 21000 := by
        rw [hx] at x1 x2
        rw [hy] at y1 y2
        unfold szE at hv
        omega
      dsimp only at c0 d0
      rw [hx] at c0 x1 x2
      rw [hy] at d0 y1 y2
      have HV := Lib.hid hv
      have HS2 : Hid (s + v = rgS T (j + 1)) := Lib.hid (by rw [rgS, hx, hy, hv, hS.out])
      clear hx hy hv
      have c1 : w.cell? ⟨b, 1 + j, none⟩ = some (.int .i64 x) := by rw [Nat.add_comm]; exact c0
      go_wp2_with fail
      refine (ws_v _ _ (szE_max HV.out) _ (by omega) (by omega)).mono ?_
      rintro e w' ⟨rfl, hw'⟩
      obtain rfl := hw'
      go_wp2_with fail
      go_roundw
      case rel => exact ⟨j + 1, s + v, by omega, by go_num, rfl, HS2, by omega, by first | exact Lib.hid trivial | exact Lib.hid rfl⟩
      case measure => simp [intOf]; omega
    · obtain rfl : j = T.length - 1 := by omega
      have HP := Lib.hid (rh_yes H1.out hS.out)
      go_wp2_with fail
      go_ret2
      exact num2E_is ⟨HP.out.1, rfl⟩ (Below.refl _ _)
set_option maxRecDepth 20000 in
set_option maxHeartbeats 6400000 in
theorem smooth_impl (A : Option Addr) (C lo hi : Nat) (T : List Int) (l : Int) (w : World) (ht : IFun w lo hi A T.length (fun j => T.getD j 0)) (hh : hi ≤ w.heap.size) (hm : T.length ≤ 1048576) :
    Calls Try.prog 42 #[.slice A T.length C, .int .i64 l] w (Num3E (lsA T l) (lsM T l) (akB T l) w) := by
  have HI := Lib.hid ht
  clear ht
  rcases h2 : trB T with _ | _
  · have H1 := Lib.hid h2
    have HP := Lib.hid (ls_no (l := l) (ak_1 h2))
    clear h2
    go_enter Try.func42, Try.ntmps42
    go_wp2_with fail
    refine (isTrE_impl _ _ _ _ _ _ H1.out _ HI.out hm).mono ?_
    rintro e w' ⟨rfl, rfl⟩
    go_wp2_with fail
    go_ret3
    exact num3E_is HP.out (Below.refl _ _)
  rcases h3 : lmB l with _ | _
  · have H1 := Lib.hid h2
    have H2 := Lib.hid h3
    have HP := Lib.hid (ls_no (T := T) (ak_2 h3))
    clear h2 h3
    go_enter Try.func42, Try.ntmps42
    go_wp2_with fail
    refine (isTrE_impl _ _ _ _ _ _ H1.out _ HI.out hm).mono ?_
    rintro e w' ⟨rfl, rfl⟩
    go_wp2_with fail
    refine (limE_impl _ _ H2.out _).mono ?_
    rintro e w' ⟨rfl, rfl⟩
    go_wp2_with fail
    go_ret3
    exact num3E_is HP.out (Below.refl _ _)
  have h1 := ak_3 h2 h3
  have H9 := Lib.hid h2
  have H2 := Lib.hid h3
  have H1 := Lib.hid h1
  have HT := Lib.hid (ak_is h1).1
  have h30 := (ak_is h1).1.hi
  have h03 := (ak_is h1).1.lo
  have hl1 := (ak_is h1).2.1
  have hl2 := (ak_is h1).2.2
  clear h1 h2 h3
  obtain ⟨b, rfl, _⟩ := HI.out 0 (by omega)
  go_enter Try.func42, Try.ntmps42
  go_wp2_with fail
  refine (isTrE_impl _ _ _ _ _ _ H9.out _ HI.out hm).mono ?_
  rintro e w' ⟨rfl, rfl⟩
  go_wp2_with fail
  refine (limE_impl _ _ H2.out _).mono ?_
  rintro e w' ⟨rfl, rfl⟩
  go_wp2_with fail
  go_loopw [7, 8, 9, 23] (fun x1 x2 x3 i wr => ∃ (k a m f : Nat), k ≤ T.length ∧ f ≤ k ∧ a + m ≤ k ∧ i = .int .i64 k ∧ x1 = .int .i64 a ∧ x2 = .int .i64 m ∧ x3 = .int .i64 f ∧ Hid (smS T l k = ⟨a, m, f⟩) ∧ Hid (w = wr)) (fun _ _ _ i _ => T.length - (intOf i).toNat)
  case atStart => exact ⟨0, 0, 0, 0, Nat.zero_le _, Nat.le_refl _, Nat.le_refl _, rfl, rfl, rfl, rfl, Lib.hid rfl, Lib.hid rfl⟩
  case round =>
    obtain ⟨k, a, m, f, hk, hfk, ham, rfl, rfl, rfl, rfl, hS, hW⟩ := hrel
    obtain rfl := hW.out
    by_cases hlt : k < T.length
    · rcases k with _ | j
      · obtain ⟨rfl, rfl, rfl⟩ : a = 0 ∧ m = 0 ∧ f = 0 := by omega
        have HF : Hid (smF T l ⟨0, 0, 0⟩ 0 = 0) := Lib.hid smF_zero
        obtain ⟨g, e', hlo, hhi, c0, hf⟩ := HI.out 0 hlt
        clear hf
        obtain rfl : b = g := by injection e' with h; injection h
        clear e'
        dsimp only at c0
        have HS2 := Lib.hid (sm_more hS.out HF.out (by omega))
        go_wp2_with fail
        go_roundw
        case rel => exact ⟨0 + 1, 0, 0 - 0 + 1, 0, by omega, by omega, by omega, by go_num, by go_num, by go_num, by go_num, HS2, by first | exact Lib.hid trivial | exact Lib.hid rfl⟩
        case measure => simp [intOf]; omega
      obtain ⟨g, e', hlo, hhi, c0, hf⟩ := HI.out (j + 1) hlt
      clear hf
      obtain rfl : b = g := by injection e' with h; injection h
      clear e'
      obtain ⟨g', e', hlo', hhi', d0, hf⟩ := HI.out j (by omega)
      clear hf
      obtain rfl : b = g' := by injection e' with h; injection h
      clear e'
      obtain ⟨x1, x2⟩ := HT.out.one (j + 1) hlt
      obtain ⟨y1, y2⟩ := HT.out.one j (by omega)
      obtain ⟨x, hx⟩ : ∃ x, T.getD (j + 1) 0 = x := ⟨_, rfl⟩
      obtain ⟨y, hy⟩ : ∃ y, T.getD j 0 = y := ⟨_, rfl⟩
      obtain ⟨v, hv⟩ : ∃ v, szE (x - y) = v := ⟨_, rfl⟩
      have hv2 : 0 ≤ v ∧ v ≤ 21000 := by
        rw [hx] at x1 x2
        rw [hy] at y1 y2
        unfold szE at hv
        omega
      dsimp only at c0 d0
      rw [hx] at c0 x1 x2
      rw [hy] at d0 y1 y2
      have HV := Lib.hid hv
      by_cases hj : l < v
      · have HF : Hid (smF T l ⟨a, m, f⟩ (j + 1) = j + 1) := Lib.hid (smF_jump (by rw [hx, hy, hv]; exact hj))
        have hd : decide (v > l) = true := decide_eq_true hj
        clear hx hy hv
        by_cases hq : m < j + 1 - (j + 1) + 1
        · have HS2 := Lib.hid (sm_more hS.out HF.out hq)
          go_wp2_with fail
          refine (ws_v _ _ (szE_max HV.out) _ (by omega) (by omega)).mono ?_
          rintro e w' ⟨rfl, hw'⟩
          obtain rfl := hw'
          go_wp2_with fail
          go_roundw
          case rel => exact ⟨j + 1 + 1, (j + 1), j + 1 - (j + 1) + 1, (j + 1), by omega, by omega, by omega, by go_num, by go_num, by go_num, by go_num, HS2, by first | exact Lib.hid trivial | exact Lib.hid rfl⟩
          case measure => simp [intOf]; omega
        · have HS2 := Lib.hid (sm_less hS.out HF.out hq)
          go_wp2_with fail
          refine (ws_v _ _ (szE_max HV.out) _ (by omega) (by omega)).mono ?_
          rintro e w' ⟨rfl, hw'⟩
          obtain rfl := hw'
          go_wp2_with fail
          go_roundw
          case rel => exact ⟨j + 1 + 1, a, m, (j + 1), by omega, by omega, by omega, by go_num, rfl, rfl, by go_num, HS2, by first | exact Lib.hid trivial | exact Lib.hid rfl⟩
          case measure => simp [intOf]; omega
      · have HF : Hid (smF T l ⟨a, m, f⟩ (j + 1) = f) := Lib.hid (smF_stay (by rw [hx, hy, hv]; exact hj))
        have hd : decide (v > l) = false := decide_eq_false hj
        clear hx hy hv
        by_cases hq : m < j + 1 - f + 1
        · have HS2 := Lib.hid (sm_more hS.out HF.out hq)
          go_wp2_with fail
          refine (ws_v _ _ (szE_max HV.out) _ (by omega) (by omega)).mono ?_
          rintro e w' ⟨rfl, hw'⟩
          obtain rfl := hw'
          go_wp2_with fail
          go_roundw
          case rel => exact ⟨j + 1 + 1, f, j + 1 - f + 1, f, by omega, by omega, by omega, by go_num, by go_num, by go_num, by go_num, HS2, by first | exact Lib.hid trivial | exact Lib.hid rfl⟩
          case measure => simp [intOf]; omega
        · have HS2 := Lib.hid (sm_less hS.out HF.out hq)
          go_wp2_with fail
          refine (ws_v _ _ (szE_max HV.out) _ (by omega) (by omega)).mono ?_
          rintro e w' ⟨rfl, hw'⟩
          obtain rfl := hw'
          go_wp2_with fail
          go_roundw
          case rel => exact ⟨j + 1 + 1, a, m, f, by omega, by omega, by omega, by go_num, rfl, rfl, by go_num, HS2, by first | exact Lib.hid trivial | exact Lib.hid rfl⟩
          case measure => simp [intOf]; omega
    · obtain rfl : k = T.length := by omega
      have HP := Lib.hid (ls_yes H1.out hS.out)
      go_wp2_with fail
      go_ret3
      exact num3E_is ⟨HP.out.1, HP.out.2.1, by first | rfl | exact HP.out.2.2⟩ (Below.refl _ _)
set_option maxRecDepth 20000 in
set_option maxHeartbeats 6400000 in
theorem where_impl (A A' : Option Addr) (C C' lo hi lo' hi' : Nat) (T U : List Int) (w : World) (ht : IFun w lo hi A T.length (fun j => T.getD j 0)) (hh : hi ≤ w.heap.size) (hm : T.length ≤ 1048576)
    (hu : IFun w lo' hi' A' U.length (fun j => U.getD j 0)) (hh2 : hi' ≤ w.heap.size) (hm2 : U.length ≤ 1048576) :
    Calls Try.prog 46 #[.slice A T.length C, .slice A' U.length C'] w (IntsPost (wsR T U) (fun j => (wsR T U).getD j 0) (wsK T U) w) := by
  obtain ⟨i0, hi, hz0, hz1, hz2⟩ := info_parts info3
  have HJ := Lib.hid (And.intro hi (And.intro hz0 (And.intro hz1 hz2)))
  clear hi hz0 hz1 hz2
  have HI := Lib.hid ht
  have HU := Lib.hid hu
  clear ht hu
  have HC0 := Lib.hid (col_start 3 1 (Below.refl w.heap.size w))
  rcases h1 : trB T with _ | _
  · have H1 := Lib.hid h1
    have HP := Lib.hid (ws_no (ws_1 (U := U) h1))
    clear h1
    go_enter Try.func46, Try.ntmps46
    go_wp2_with fail
    refine (isTrE_impl _ _ _ _ _ _ H1.out _ HI.out hm).mono ?_
    rintro e w' ⟨rfl, rfl⟩
    go_wp2_with fail
    go_ret2
    exact ie_no HP.out HC0.out
  rcases h2 : trB U with _ | _
  · have H1 := Lib.hid h1
    have H2 := Lib.hid h2
    have HP := Lib.hid (ws_no (ws_2 (T := T) h2))
    clear h1 h2
    go_enter Try.func46, Try.ntmps46
    go_wp2_with fail
    refine (isTrE_impl _ _ _ _ _ _ H1.out _ HI.out hm).mono ?_
    rintro e w' ⟨rfl, rfl⟩
    go_wp2_with fail
    refine (isTrE_impl _ _ _ _ _ _ H2.out _ HU.out hm2).mono ?_
    rintro e w' ⟨rfl, rfl⟩
    go_wp2_with fail
    go_ret2
    exact ie_no HP.out HC0.out
  by_cases h3 : U.length = T.length
  case neg =>
    have H1 := Lib.hid h1
    have H2 := Lib.hid h2
    have HP := Lib.hid (ws_no (ws_3 (T := T) h3))
    have h39 : ¬ (T.length : Int) = U.length := by omega
    clear h1 h2 h3
    go_enter Try.func46, Try.ntmps46
    go_wp2_with fail
    refine (isTrE_impl _ _ _ _ _ _ H1.out _ HI.out hm).mono ?_
    rintro e w' ⟨rfl, rfl⟩
    go_wp2_with fail
    refine (isTrE_impl _ _ _ _ _ _ H2.out _ HU.out hm2).mono ?_
    rintro e w' ⟨rfl, rfl⟩
    go_wp2_with fail
    go_ret2
    exact ie_no HP.out HC0.out
  have HP := Lib.hid (ws_yes (ws_4 h1 h2 h3))
  have h30 := (trk_of h1).hi
  have H1 := Lib.hid h1
  have H2 := Lib.hid h2
  have H3 := Lib.hid h3
  clear h1 h2 h3
  go_enter Try.func46, Try.ntmps46
  go_wp2_with fail
  refine (isTrE_impl _ _ _ _ _ _ H1.out _ HI.out hm).mono ?_
  rintro e w' ⟨rfl, rfl⟩
  go_wp2_with fail
  refine (isTrE_impl _ _ _ _ _ _ H2.out _ HU.out hm2).mono ?_
  rintro e w' ⟨rfl, rfl⟩
  have h3 : (U.length : Int) = T.length := by have := H3.out; omega
  go_wp2_with fail
  clear h3
  have HC1 : Hid (Col w 3 1 (.slice (some ⟨w.heap.size, 0, none⟩) 0 0) 0 (ivs (wsL T U 0)) (w.alloc (.cells #[] 3))) := HC0
  go_loopw [6, 28] (fun s i wr => ∃ (k m g C : Nat), k ≤ T.length ∧ m ≤ k ∧ i = .int .i64 k ∧ s = .slice (some ⟨g, 0, none⟩) m C ∧ Hid (Col w 3 1 (.slice (some ⟨g, 0, none⟩) m C) m (ivs (wsL T U k)) wr)) (fun _ i _ => T.length - (intOf i).toNat)
  case atStart => exact ⟨0, 0, _, 0, Nat.zero_le _, Nat.le_refl _, rfl, rfl, HC1⟩
  case round =>
    obtain ⟨k, m, g, C, hk, hmk, rfl, rfl, hC⟩ := hrel
    by_cases hlt : k < T.length
    · have hul : k < U.length := by have := H3.out; omega
      obtain ⟨b, rfl, hlo, hhi, c0, hf⟩ := (HI.out.on hC.out.2 hh) k hlt
      clear hf
      obtain ⟨b', rfl, hlo', hhi', d0, hf⟩ := (HU.out.on hC.out.2 hh2) k hul
      clear hf
      obtain ⟨x, hx⟩ : ∃ x, T.getD k 0 = x := ⟨_, rfl⟩
      obtain ⟨y, hy⟩ : ∃ y, U.getD k 0 = y := ⟨_, rfl⟩
      dsimp only at c0 d0
      rw [hx] at c0
      rw [hy] at d0
      by_cases hxy : x < y
      · have hd : decide (x < y) = true := decide_eq_true hxy
        have HT := Lib.hid (wsL_yes hx hy hxy)
        clear hx hy
        go_wp2_with (at_builtin; go_loud (refine wpList_append_own_at _ rfl _ _ 24 rfl w.heap.size 3 i0 (.int .i64 0) 1 8 Try.underlying24 HJ.out.1 HJ.out.2.1 HJ.out.2.2.1 HJ.out.2.2.2 rfl (by decide) _ _ _ rfl (hC.out.1.alloc _) ⟨wr.heap.size, 0, none⟩ 1 1 [.int .i64 k] rfl rfl (one_newJ _ _ _) (by simp [Value.oneCell']) (by unfold maxLen; omega) (by omega) (by have := hC.out.2.size; simp; omega) ?_; intro v' w5 hown' hgrow _ hfr; have HN := Lib.hid (hC.out.step hown' hgrow); clear hown' hgrow hfr))
        obtain ⟨g5, C5, rfl, _, _⟩ := own_capsJ HN.out.1
        have HC9 : Hid (Col w 3 1 (.slice (some ⟨g5, 0, none⟩) (m + 1) C5) (m + 1) (ivs (wsL T U (k + 1))) w5) := by unfold Hid; rw [HT.out, ivs_snoc]; exact HN.out
        clear HN c0 d0
        go_roundw
        case rel => exact ⟨k + 1, m + 1, g5, C5, by omega, by omega, by go_num, rfl, HC9⟩
        case measure => simp [intOf]; omega
      · have hd : decide (x < y) = false := decide_eq_false hxy
        have HT := Lib.hid (wsL_no hx hy hxy)
        have HC2 : Hid (Col w 3 1 (.slice (some ⟨g, 0, none⟩) m C) m (ivs (wsL T U (k + 1))) wr) := by unfold Hid; rw [HT.out]; exact hC.out
        clear hx hy
        go_wp2_with fail
        go_roundw
        case rel => exact ⟨k + 1, m, g, C, by omega, by omega, by go_num, rfl, HC2⟩
        case measure => simp [intOf]; omega
    · obtain rfl : k = T.length := by omega
      go_wp2_with fail
      go_ret2
      exact ie_yes HP.out hC.out
theorem keB_all (K : List Int) : K.all (fun x => inB x 0 1) = keB K K.length := by
  have h : ∀ k, k ≤ K.length → (K.take k).all (fun x => inB x 0 1) = keB K k := by
    intro k
    induction k with
    | zero => intro _; simp [keB]
    | succ k ih =>
      intro hk
      rw [keB_succ, ← ih (by omega), all_snoc _ (show K[k]? = some (K.getD k 0) by rw [List.getD_eq_getElem?_getD, List.getElem?_eq_getElem (by omega)]; rfl)]
  have h2 := h K.length (Nat.le_refl _)
  rw [List.take_length] at h2
  exact h2
theorem ifun_listE {w : World} {lo hi g : Nat} {U : List Int} (h : IFun w lo hi (some ⟨g, 0, none⟩) U.length (fun j => U.getD j 0)) : ∀ k x, U[k]? = some x → w.cell? ⟨g, k, none⟩ = some (.int .i64 x) := fun k x hx => by
  have hk := (List.getElem?_eq_some_iff.1 hx).1
  obtain ⟨g', e', _, _, c0, _⟩ := h k hk
  obtain rfl : g = g' := by injection e' with h; injection h
  dsimp only at c0
  rw [List.getD_eq_getElem?_getD, hx] at c0
  exact c0
set_option maxRecDepth 20000 in
set_option maxHeartbeats 6400000 in
theorem kept_impl (A A' : Option Addr) (C C' lo hi lo' hi' : Nat) (T U : List Int) (w : World) (ht : IFun w lo hi A T.length (fun j => T.getD j 0)) (hh : hi ≤ w.heap.size) (hm : T.length ≤ 1048576)
    (hu : IFun w lo' hi' A' U.length (fun j => U.getD j 0)) (hh2 : hi' ≤ w.heap.size) (hm2 : U.length ≤ 1048576) :
    Calls Try.prog 24 #[.slice A T.length C, .slice A' U.length C'] w (IntsPost (ktR T U) (fun j => (ktR T U).getD j 0) (ktK T U) w) := by
  obtain ⟨i0, hi, hz0, hz1, hz2⟩ := info_parts info3
  have HJ := Lib.hid (And.intro hi (And.intro hz0 (And.intro hz1 hz2)))
  clear hi hz0 hz1 hz2
  have HI := Lib.hid ht
  have HU := Lib.hid hu
  clear ht hu
  have HC0 := Lib.hid (col_start 3 1 (Below.refl w.heap.size w))
  rcases h1 : trB T with _ | _
  · have H1 := Lib.hid h1
    have HP := Lib.hid (kt_no (kt_1 (K := U) h1))
    clear h1
    go_enter Try.func24, Try.ntmps24
    go_wp2_with fail
    refine (isTrE_impl _ _ _ _ _ _ H1.out _ HI.out hm).mono ?_
    rintro e w' ⟨rfl, rfl⟩
    go_wp2_with fail
    go_ret2
    exact ie_no HP.out HC0.out
  by_cases h3 : U.length = T.length
  case neg =>
    have H1 := Lib.hid h1
    have HP := Lib.hid (kt_no (kt_2 (T := T) h3))
    have h39 : ¬ (U.length : Int) = T.length := by omega
    clear h1 h3
    go_enter Try.func24, Try.ntmps24
    go_wp2_with fail
    refine (isTrE_impl _ _ _ _ _ _ H1.out _ HI.out hm).mono ?_
    rintro e w' ⟨rfl, rfl⟩
    go_wp2_with fail
    go_ret2
    exact ie_no HP.out HC0.out
  have h30 := (trk_of h1).hi
  have h03 := (trk_of h1).lo
  have hU30 : U.length ≤ 30 := by omega
  obtain ⟨b', rfl, _⟩ := HU.out 0 (by omega)
  have HUC := Lib.hid (ifun_listE HU.out)
  rcases h4 : keB U U.length with _ | _
  · have H1 := Lib.hid h1
    have HM : Hid (U.all (fun x => inB x 0 1) = false) := Lib.hid (by rw [keB_all, h4])
    have HP : Hid (ktR T U = [] ∧ ktK T U = false) := Lib.hid (kt_no (by unfold ktK; rw [h4, Bool.and_false]))
    have H3 := Lib.hid h3
    clear h1 h3 h4
    go_enter Try.func24, Try.ntmps24
    go_wp2_with fail
    refine (isTrE_impl _ _ _ _ _ _ H1.out _ HI.out hm).mono ?_
    rintro e w' ⟨rfl, rfl⟩
    have h3 : (U.length : Int) = T.length := by have := H3.out; omega
    go_wp2_with fail
    refine (many_within 0 1 U _ HM.out (by omega) _ _ _ HUC.out).mono ?_
    rintro e w' ⟨rfl, rfl⟩
    go_wp2_with fail
    go_ret2
    exact ie_no HP.out HC0.out
  have HP := Lib.hid (kt_yes (kt_4 h1 h3 h4))
  have HM : Hid (U.all (fun x => inB x 0 1) = true) := Lib.hid (by rw [keB_all, h4])
  have H1 := Lib.hid h1
  have H3 := Lib.hid h3
  clear h1 h3 h4
  go_enter Try.func24, Try.ntmps24
  go_wp2_with fail
  refine (isTrE_impl _ _ _ _ _ _ H1.out _ HI.out hm).mono ?_
  rintro e w' ⟨rfl, rfl⟩
  have h3 : (U.length : Int) = T.length := by have := H3.out; omega
  go_wp2_with fail
  refine (many_within 0 1 U _ HM.out (by omega) _ _ _ HUC.out).mono ?_
  rintro e w' ⟨rfl, rfl⟩
  go_wp2_with fail
  clear h3
  have HC1 : Hid (Col w 3 1 (.slice (some ⟨w.heap.size, 0, none⟩) 0 0) 0 (ivs (ktL T U 0)) (w.alloc (.cells #[] 3))) := HC0
  go_loopw [6, 28] (fun s i wr => ∃ (k m g C : Nat), k ≤ T.length ∧ m ≤ k ∧ i = .int .i64 k ∧ s = .slice (some ⟨g, 0, none⟩) m C ∧ Hid (Col w 3 1 (.slice (some ⟨g, 0, none⟩) m C) m (ivs (ktL T U k)) wr)) (fun _ i _ => T.length - (intOf i).toNat)
  case atStart => exact ⟨0, 0, _, 0, Nat.zero_le _, Nat.le_refl _, rfl, rfl, HC1⟩
  case round =>
    obtain ⟨k, m, g, C, hk, hmk, rfl, rfl, hC⟩ := hrel
    by_cases hlt : k < T.length
    · have hul : k < U.length := by have := H3.out; omega
      obtain ⟨b, rfl, hlo, hhi, c0, hf⟩ := (HI.out.on hC.out.2 hh) k hlt
      clear hf
      obtain ⟨g', e', hlo', hhi', d0, hf⟩ := (HU.out.on hC.out.2 hh2) k hul
      clear hf
      obtain rfl : b' = g' := by injection e' with h; injection h
      clear e'
      obtain ⟨x, hx⟩ : ∃ x, T.getD k 0 = x := ⟨_, rfl⟩
      obtain ⟨y, hy⟩ : ∃ y, U.getD k 0 = y := ⟨_, rfl⟩
      dsimp only at c0 d0
      rw [hx] at c0
      rw [hy] at d0
      by_cases h6 : y = 1
      · have hd : (y == 1) = true := beq_iff_eq.2 h6
        have HT := Lib.hid (ktL_yes hx hy h6)
        clear hx hy h6
        go_wp2_with (at_builtin; go_loud (refine wpList_append_own_at _ rfl _ _ 24 rfl w.heap.size 3 i0 (.int .i64 0) 1 8 Try.underlying24 HJ.out.1 HJ.out.2.1 HJ.out.2.2.1 HJ.out.2.2.2 rfl (by decide) _ _ _ rfl (hC.out.1.alloc _) ⟨wr.heap.size, 0, none⟩ 1 1 [.int .i64 x] rfl rfl (one_newJ _ _ _) (by simp [Value.oneCell']) (by unfold maxLen; omega) (by omega) (by have := hC.out.2.size; simp; omega) ?_; intro v' w5 hown' hgrow _ hfr; have HN := Lib.hid (hC.out.step hown' hgrow); clear hown' hgrow hfr))
        obtain ⟨g5, C5, rfl, _, _⟩ := own_capsJ HN.out.1
        have HC9 : Hid (Col w 3 1 (.slice (some ⟨g5, 0, none⟩) (m + 1) C5) (m + 1) (ivs (ktL T U (k + 1))) w5) := by unfold Hid; rw [HT.out, ivs_snoc]; exact HN.out
        clear HN c0 d0
        go_roundw
        case rel => exact ⟨k + 1, m + 1, g5, C5, by omega, by omega, by go_num, rfl, HC9⟩
        case measure => simp [intOf]; omega
      · have hd : (y == 1) = false := beq_eq_false_iff_ne.2 h6
        have HT := Lib.hid (ktL_no (T := T) hy h6)
        have HC2 : Hid (Col w 3 1 (.slice (some ⟨g, 0, none⟩) m C) m (ivs (ktL T U (k + 1))) wr) := by unfold Hid; rw [HT.out]; exact hC.out
        clear hx hy h6
        go_wp2_with fail
        go_roundw
        case rel => exact ⟨k + 1, m, g, C, by omega, by omega, by go_num, rfl, HC2⟩
        case measure => simp [intOf]; omega
    · obtain rfl : k = T.length := by omega
      have HP2 : Hid (ktR T U = ktL T U T.length ∧ ktK T U = true) := by have h := HP.out; rw [H3.out] at h; exact Lib.hid h
      go_wp2_with fail
      go_ret2
      exact ie_yes HP2.out hC.out
end Go.Proofs.Ytjekmmekkfmplaa
