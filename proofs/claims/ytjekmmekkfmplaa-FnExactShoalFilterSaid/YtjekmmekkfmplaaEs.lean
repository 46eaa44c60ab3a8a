/-
  Shoal filters, the program: contracts of slices.Min at []int, impl.ShoalFilter over this translation. Conditions: stated at each theorem.
-/
import Derived.Test.YtjekmmekkfmplaaEc
import Derived.Test.YtjekmmekkfmplaaEf
namespace Go.Proofs.Ytjekmmekkfmplaa
open Go.RowKit
set_option linter.unusedVariables false

theorem wn_low {T : List Int} {s : Int} {lo : Nat} : ∀ {n k : Nat}, k < n → wnI T s lo n ≤ T.getD (lo + k) 0
  | n + 1, k, hk => by
    rw [wnI]
    by_cases e : k = n
    · subst e; exact Int.min_le_right _ _
    · have := wn_low (T := T) (s := s) (lo := lo) (n := n) (k := k) (by omega)
      omega
theorem wn_is {T : List Int} {s : Int} {lo : Nat} : ∀ n, wnI T s lo n = s ∨ ∃ k, k < n ∧ wnI T s lo n = T.getD (lo + k) 0
  | 0 => .inl rfl
  | n + 1 => by
    rw [wnI]
    by_cases h : wnI T s lo n ≤ T.getD (lo + n) 0
    · rw [Int.min_eq_left h]
      rcases wn_is n with h1 | ⟨k, hk, h1⟩
      · exact .inl h1
      · exact .inr ⟨k, by omega, h1⟩
    · exact .inr ⟨n, by omega, Int.min_eq_right (by omega)⟩
theorem wn_same {T : List Int} {lo n i : Nat} (h1 : lo ≤ i) (h2 : i < lo + n) : wnI T (T.getD lo 0) lo n = wnI T (T.getD i 0) lo n := by
  have a1 : wnI T (T.getD lo 0) lo n ≤ T.getD i 0 := by
    have := wn_low (T := T) (s := T.getD lo 0) (lo := lo) (n := n) (k := i - lo) (by omega)
    rwa [show lo + (i - lo) = i by omega] at this
  have a2 : wnI T (T.getD i 0) lo n ≤ T.getD lo 0 := by
    have := wn_low (T := T) (s := T.getD i 0) (lo := lo) (n := n) (k := 0) (by omega)
    rwa [Nat.add_zero] at this
  have b1 : wnI T (T.getD lo 0) lo n ≤ wnI T (T.getD i 0) lo n := by
    rcases wn_is (T := T) (s := T.getD i 0) (lo := lo) n with h | ⟨k, hk, h⟩
    · rw [h]; exact a1
    · rw [h]; exact wn_low hk
  have b2 : wnI T (T.getD i 0) lo n ≤ wnI T (T.getD lo 0) lo n := by
    rcases wn_is (T := T) (s := T.getD lo 0) (lo := lo) n with h | ⟨k, hk, h⟩
    · rw [h]; exact a2
    · rw [h]; exact wn_low hk
  omega
set_option maxRecDepth 20000 in
set_option maxHeartbeats 1600000 in
theorem min_ints (g lo n c : Nat) (T : List Int) (w : World) (v : Int) (hv : wnI T (T.getD lo 0) lo n = v) (hn : 0 < n) (hm : n ≤ 1000) (hc : ∀ k, k < n → w.cell? ⟨g, lo + k, none⟩ = some (.int .i64 (T.getD (lo + k) 0))) :
    Calls Try.prog 75 #[.slice (some ⟨g, lo, none⟩) n c] w fun e w' => e = .returned (.int .i64 v) ∧ w = w' := by
  have HV := Lib.hid hv
  have HC := Lib.hid hc
  have c0 := hc 0 hn
  rw [Nat.add_zero] at c0
  clear hv hc
  obtain ⟨x, hx⟩ : ∃ x, T.getD lo 0 = x := ⟨_, rfl⟩
  rw [hx] at c0
  have HX := Lib.hid hx
  clear hx
  go_enter Try.func75, Try.ntmps75
  go_wp2_with fail
  go_loopw [3, 4] (fun m i wr => ∃ (k : Nat) (y : Int), 1 ≤ k ∧ k ≤ n ∧ i = .int .i64 k ∧ m = .int .i64 y ∧ Hid (wnI T (T.getD lo 0) lo k = y) ∧ Hid (w = wr)) (fun _ i _ => n - (intOf i).toNat)
  case atStart => exact ⟨1, x, Nat.le_refl _, hn, rfl, rfl, Lib.hid (by rw [wnI, wnI, HX.out, Nat.add_zero, HX.out, Int.min_self]), Lib.hid rfl⟩
  case round =>
    obtain ⟨k, y, hk1, hk, rfl, rfl, hY, hW⟩ := hrel
    obtain rfl := hW.out
    by_cases hlt : k < n
    · have ck := HC.out k hlt
      obtain ⟨z, hz⟩ : ∃ z, T.getD (lo + k) 0 = z := ⟨_, rfl⟩
      rw [hz] at ck
      obtain ⟨u, hu⟩ : ∃ u, min y z = u := ⟨_, rfl⟩
      have HY2 : Hid (wnI T (T.getD lo 0) lo (k + 1) = u) := Lib.hid (by rw [wnI, hY.out, hz, hu])
      have HU := Lib.hid hu
      clear hz hu
      go_wp2_with fail
      go_roundw
      case rel => exact ⟨k + 1, u, by omega, by omega, by go_num, by have h9 := HU.out; congr 1; split <;> omega, HY2, by first | exact Lib.hid trivial | exact Lib.hid rfl⟩
      case measure => simp [intOf]; omega
    · obtain rfl : k = n := by omega
      have HP : Hid (y = v) := Lib.hid (by rw [← HV.out, ← hY.out])
      go_wp2_with fail
      go_ret
      exact ⟨ret_int HP.out, rfl⟩
def hiE (T : List Int) (r k : Nat) : Nat := min T.length (k + r + 1)
theorem shI_is {T : List Int} {r k : Nat} (hk : k < T.length) : wnI T (T.getD (k - r) 0) (k - r) (hiE T r k - (k - r)) = shI T r k := by
  unfold shI hiE
  rw [show min (T.length - 1) (k + r) + 1 - (k - r) = min T.length (k + r + 1) - (k - r) by omega]
  exact wn_same (by omega) (by omega)
theorem max_ifE (k r : Nat) : (if (0 : Int) < (k : Int) - r then (k : Int) - r else 0) = ((k - r : Nat) : Int) := by split <;> omega
theorem min_ifE (n k r : Nat) : (if (k : Int) + r + 1 < (n : Int) then (k : Int) + r + 1 else (n : Int)) = ((min n (k + r + 1) : Nat) : Int) := by split <;> omega
set_option maxRecDepth 20000 in
set_option maxHeartbeats 6400000 in
theorem shoal_impl (A : Option Addr) (C lo hi : Nat) (T : List Int) (r : Int) (w : World) (ht : IFun w lo hi A T.length (fun j => T.getD j 0)) (hh : hi ≤ w.heap.size) (hm : T.length ≤ 1048576) (hcap : T.length ≤ C) :
    Calls Try.prog 36 #[.slice A T.length C, .int .i64 r] w (IntsPost (sfR T r) (fun j => (sfR T r).getD j 0) (sfK T r) w) := by
  obtain ⟨i0, hi0, hz0, hz1, hz2⟩ := info_parts info3
  have HJ := Lib.hid (And.intro hi0 (And.intro hz0 (And.intro hz1 hz2)))
  clear hi0 hz0 hz1 hz2
  have HI := Lib.hid ht
  clear ht
  have HC0 := Lib.hid (col_start 3 1 (Below.refl w.heap.size w))
  rcases h1 : trB T with _ | _
  · have H1 := Lib.hid h1
    have HP := Lib.hid (sf_no (sf_1 (r := r) h1))
    clear h1
    go_enter Try.func36, Try.ntmps36
    go_wp2_with fail
    refine (isTrE_impl _ _ _ _ _ _ H1.out _ HI.out hm).mono ?_
    rintro e w' ⟨rfl, rfl⟩
    go_wp2_with fail
    go_ret2
    exact ie_no HP.out HC0.out
  rcases h2 : inB r 0 10 with _ | _
  · have H1 := Lib.hid h1
    have H2 := Lib.hid h2
    have HP := Lib.hid (sf_no (sf_2 (T := T) h2))
    clear h1 h2
    go_enter Try.func36, Try.ntmps36
    go_wp2_with fail
    refine (isTrE_impl _ _ _ _ _ _ H1.out _ HI.out hm).mono ?_
    rintro e w' ⟨rfl, rfl⟩
    go_wp2_with fail
    refine (within_v _ _ _ _ H2.out _).mono ?_
    rintro e w' ⟨rfl, rfl⟩
    go_wp2_with fail
    go_ret2
    exact ie_no HP.out HC0.out
  obtain ⟨hr0, hr10⟩ := inB_yes h2
  obtain ⟨q, rfl⟩ : ∃ q : Nat, r = q := ⟨r.toNat, by omega⟩
  have h30 := (trk_of h1).hi
  have h03 := (trk_of h1).lo
  have H1 := Lib.hid h1
  have H2 := Lib.hid h2
  have HP := Lib.hid (sf_yes (sf_3 h1 h2))
  clear h1 h2
  obtain ⟨b, rfl, _⟩ := HI.out 0 (by omega)
  go_enter Try.func36, Try.ntmps36
  go_wp2_with fail
  refine (isTrE_impl _ _ _ _ _ _ H1.out _ HI.out hm).mono ?_
  rintro e w' ⟨rfl, rfl⟩
  go_wp2_with fail
  refine (within_v _ _ _ _ H2.out _).mono ?_
  rintro e w' ⟨rfl, rfl⟩
  go_wp2_with fail
  have HC1 : Hid (Col w 3 1 (.slice (some ⟨w.heap.size, 0, none⟩) 0 0) 0 (ivs (shL T q 0)) (w.alloc (.cells #[] 3))) := HC0
  go_loopw [6, 21] (fun s i wr => ∃ (k g C : Nat), k ≤ T.length ∧ i = .int .i64 k ∧ s = .slice (some ⟨g, 0, none⟩) k C ∧ Hid (Col w 3 1 (.slice (some ⟨g, 0, none⟩) k C) k (ivs (shL T q k)) wr)) (fun _ i _ => T.length - (intOf i).toNat)
  case atStart => exact ⟨0, _, 0, Nat.zero_le _, rfl, rfl, HC1⟩
  case round =>
    obtain ⟨k, g, C', hk, rfl, rfl, hC⟩ := hrel
    by_cases hlt : k < T.length
    · have HW := Lib.hid (shI_is (r := q) hlt)
      obtain ⟨v, hv⟩ : ∃ v, shI T q k = v := ⟨_, rfl⟩
      obtain ⟨z, hz⟩ : ∃ z, hiE T q k = z := ⟨_, rfl⟩
      have hmx := max_ifE k q
      have hmn := min_ifE T.length k q
      have hz' : min T.length (k + q + 1) = z := hz
      have hz1 : z ≤ T.length := by omega
      have hz2 : k < z := by omega
      have HS : Hid (shL T q (k + 1) = shL T q k ++ [v]) := Lib.hid (by rw [shL, hv])
      rw [hz'] at hmn
      have HW2 : Hid (wnI T (T.getD (k - q) 0) (k - q) (z - (k - q)) = v) := Lib.hid (by have h := HW.out; rw [hz, hv] at h; exact h)
      have HCC : Hid (∀ j, j < z - (k - q) → wr.cell? ⟨b, (k - q) + j, none⟩ = some (.int .i64 (T.getD ((k - q) + j) 0))) := Lib.hid fun j hj => by
        obtain ⟨b', e', _, _, c0, _⟩ := (HI.out.on hC.out.2 hh) ((k - q) + j) (by omega)
        obtain rfl : b = b' := by injection e' with h; injection h
        exact c0
      clear hv hz hz'
      by_cases hkq : q < k
      · have hkz : (0 : Int) < (k : Int) - q := by omega
        go_wp2_with fail
        refine (min_ints b (k - q) (z - (k - q)) _ T wr v HW2.out (by omega) (by omega) HCC.out).mono ?_
        rintro e w' ⟨rfl, hw'⟩
        obtain rfl := hw'
        go_wp2_with (at_builtin; go_loud (refine wpList_append_own_at _ rfl _ _ 24 rfl w.heap.size 3 i0 (.int .i64 0) 1 8 Try.underlying24 HJ.out.1 HJ.out.2.1 HJ.out.2.2.1 HJ.out.2.2.2 rfl (by decide) _ _ _ rfl (hC.out.1.alloc _) ⟨wr.heap.size, 0, none⟩ 1 1 [.int .i64 v] rfl rfl (one_newJ _ _ _) (by simp [Value.oneCell']) (by unfold maxLen; omega) (by omega) (by have := hC.out.2.size; simp; omega) ?_; intro v' w5 hown' hgrow _ hfr; have HN := Lib.hid (hC.out.step hown' hgrow); clear hown' hgrow hfr))
        obtain ⟨g5, C5, rfl, _, _⟩ := own_capsJ HN.out.1
        have HC9 : Hid (Col w 3 1 (.slice (some ⟨g5, 0, none⟩) (k + 1) C5) (k + 1) (ivs (shL T q (k + 1))) w5) := by unfold Hid; rw [HS.out, ivs_snoc]; exact HN.out
        clear HN
        go_roundw
        case rel => exact ⟨k + 1, g5, C5, by omega, by go_num, rfl, HC9⟩
        case measure => simp [intOf]; omega
      · have hkz : ¬ (0 : Int) < (k : Int) - q := by omega
        rw [show k - q = 0 by omega, Nat.sub_zero] at HW2 HCC
        go_wp2_with fail
        refine (min_ints b 0 z _ T wr v HW2.out (by omega) (by omega) HCC.out).mono ?_
        rintro e w' ⟨rfl, hw'⟩
        obtain rfl := hw'
        go_wp2_with (at_builtin; go_loud (refine wpList_append_own_at _ rfl _ _ 24 rfl w.heap.size 3 i0 (.int .i64 0) 1 8 Try.underlying24 HJ.out.1 HJ.out.2.1 HJ.out.2.2.1 HJ.out.2.2.2 rfl (by decide) _ _ _ rfl (hC.out.1.alloc _) ⟨wr.heap.size, 0, none⟩ 1 1 [.int .i64 v] rfl rfl (one_newJ _ _ _) (by simp [Value.oneCell']) (by unfold maxLen; omega) (by omega) (by have := hC.out.2.size; simp; omega) ?_; intro v' w5 hown' hgrow _ hfr; have HN := Lib.hid (hC.out.step hown' hgrow); clear hown' hgrow hfr))
        obtain ⟨g5, C5, rfl, _, _⟩ := own_capsJ HN.out.1
        have HC9 : Hid (Col w 3 1 (.slice (some ⟨g5, 0, none⟩) (k + 1) C5) (k + 1) (ivs (shL T q (k + 1))) w5) := by unfold Hid; rw [HS.out, ivs_snoc]; exact HN.out
        clear HN
        go_roundw
        case rel => exact ⟨k + 1, g5, C5, by omega, by go_num, rfl, HC9⟩
        case measure => simp [intOf]; omega
    · obtain rfl : k = T.length := by omega
      go_wp2_with fail
      go_ret2
      exact ie_yes HP.out hC.out
end Go.Proofs.Ytjekmmekkfmplaa
