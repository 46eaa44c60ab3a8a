/-
  Contract of spec.DepthAfter over this translation. Conditions: stated at the theorem.
-/
import Derived.Test.YtdmnkmdlochogabYl
import Derived.Test.YtdmnkmdlochogabYg
namespace Go.Proofs.Ytdmnkmdlochogab
open Go.RowKit
set_option linter.unusedVariables false

/-- Where the search stands: behind k layers, the time q left. -/
def DaAt (l : List (Int × Int)) (o : Option Rat) (k : Nat) (dd n : Int) (m : Nat) : Prop :=
  ∃ q : Rat, (dpQ (l.drop k) q).map (· + (dd : Rat)) = o ∧ q.num = n ∧ q.den = m ∧ 0 ≤ q ∧ q ≤ ((200 : Int) : Rat) ∧ m ≤ 1700 ^ k
theorem da_bd {l : List (Int × Int)} {o : Option Rat} {k : Nat} {dd n : Int} {m : Nat} (h : DaAt l o k dd n m) (hk : k ≤ 4) : (0 ≤ n ∧ n ≤ 200 * m) ∧ 0 < m ∧ m ≤ 8352100000000 := by
  obtain ⟨q, _, rfl, rfl, h0, h1, hD⟩ := h
  refine ⟨⟨Rat.num_nonneg.2 h0, (le_num _ _).1 h1⟩, den_pos q, ?_⟩
  have h2 : 1700 ^ k ≤ 1700 ^ 4 := Nat.pow_le_pow_right (by omega) hk
  have e : (1700 : Nat) ^ 4 = 8352100000000 := by decide
  omega
theorem da_exit {l : List (Int × Int)} {o : Option Rat} {k : Nat} {dd n x y : Int} {m : Nat} (h : DaAt l o k dd n m) (hk : l[k]? = some (x, y)) (hx : n * y ≤ 10 * x * m) : o = some (mkRat (dd * 10 * m + n * y) (10 * m)) := by
  obtain ⟨q, ho, rfl, rfl, h0, h1, hD⟩ := h
  rw [dp_down hk] at ho
  rw [← ho]
  exact dp_exit (p := (x, y)) hx
theorem da_next {l : List (Int × Int)} {o : Option Rat} {k : Nat} {dd n x : Int} {m y : Nat} (h : DaAt l o k dd n m) (hk : l[k]? = some (x, (y : Int))) (hx : ¬ n * y ≤ 10 * x * m) (bx : 1 ≤ x ∧ x ≤ 5000) (by_ : 1300 ≤ (y : Int) ∧ (y : Int) ≤ 1700) :
    ∃ r : Rat, mkRat (n * y - 10 * x * m) (m * y) = r ∧ DaAt l o (k + 1) (dd + x) r.num r.den := by
  obtain ⟨q, ho, rfl, rfl, h0, h1, hD⟩ := h
  rw [dp_down hk] at ho
  have hb := rem_bd (D := q.den * 1700) h0 h1 bx by_ hx (Nat.le_refl _)
  have he := rem_eq q (x := x) (y := (y : Int)) (by omega)
  rw [Int.toNat_natCast] at he hb
  refine ⟨_, rfl, _, ?_, rfl, rfl, ?_, ?_, ?_⟩
  · rw [← he, ← ho]
    have h2 := dp_step (l := l.drop (k + 1)) (q := q) (p := (x, (y : Int))) (d := dd) hx
    rw [h2]
    simp only [Int.toNat_natCast]
  · rw [← he]; exact hb.1
  · rw [← he]; exact hb.2.1
  · rw [← he, Nat.pow_succ]
    exact Nat.le_trans hb.2.2 (Nat.mul_le_mul_right _ hD)
set_option maxRecDepth 20000 in
set_option maxHeartbeats 6400000 in
theorem depthAfter_spec (A : Option Addr) (n c : Nat) (l : List (Int × Int)) (t : Int) (w : World) (hs : Spots w w.heap.size A n l) (hm : n ≤ maxLen) :
    Calls Try.prog 55 #[.slice A n c, .int .i64 t] w (Q3Post (daO l t) w) := by
  obtain rfl := hs.1
  have HS := Lib.hid hs
  clear hs
  rcases h1 : strB l with _ | _
  · have H1 := Lib.hid h1
    have HO : Hid (daO l t = none) := by unfold Hid daO; rw [h1]; rfl
    clear h1
    go_enter Try.func55, Try.ntmps55
    go_wp2_with fail
    refine (goodS_v _ _ _ l _ H1.out _ HS.out hm).mono ?_
    rintro e w' ⟨rfl, rfl⟩
    go_wp2_with fail
    go_ret3
    exact q3_none HO.out (Below.refl _ _)
  have H1 := Lib.hid h1
  rcases h2 : inB t 0 200 with _ | _
  · have H2 := Lib.hid h2
    have HO : Hid (daO l t = none) := by unfold Hid daO; rw [h1, h2]; rfl
    clear h1 h2
    go_enter Try.func55, Try.ntmps55
    go_wp2_with fail
    refine (goodS_v _ _ _ l _ H1.out _ HS.out hm).mono ?_
    rintro e w' ⟨rfl, rfl⟩
    go_wp2_with fail
    refine (l1In_v _ _ _ _ H2.out _).mono ?_
    rintro e w' ⟨rfl, rfl⟩
    go_wp2_with fail
    go_ret3
    exact q3_none HO.out (Below.refl _ _)
  have H2 := Lib.hid h2
  obtain ⟨o, ho⟩ : ∃ o, daO l t = o := ⟨_, rfl⟩
  have ho2 : dpQ l (t : Rat) = o := by rw [← ho]; unfold daO; rw [h1, h2]; rfl
  obtain ⟨ht0, ht1⟩ := inB_yes h2
  obtain ⟨⟨h51, h52⟩, hg⟩ := str_parts h1
  have HG := Lib.hid hg
  have HD0 : Hid (DaAt l o 0 0 t 1) := by
    refine ⟨(t : Rat), ?_, rfl, rfl, Rat.intCast_nonneg.2 ht0, Rat.intCast_le_intCast.2 ht1, by simp⟩
    rw [List.drop_zero, ho2]
    cases o with
    | none => rfl
    | some r => simp only [Option.map]; rw [Rat.intCast_zero, Rat.add_zero]
  have HO := Lib.hid ho
  rw [HO.out]
  clear h1 h2 hg ho ho2
  go_enter Try.func55, Try.ntmps55
  go_wp2_with fail
  refine (goodS_v _ _ _ l _ H1.out _ HS.out hm).mono ?_
  rintro e w' ⟨rfl, rfl⟩
  go_wp2_with fail
  refine (l1In_v _ _ _ _ H2.out _).mono ?_
  rintro e w' ⟨rfl, rfl⟩
  go_wp2_with fail
  go_loopw [7, 8, 9, 10] (fun a b d i wr => ∃ (k : Nat) (dd n : Int) (m : Nat), k ≤ l.length ∧ i = .int .i64 k ∧ a = .int .i64 dd ∧ b = .int .i64 n ∧ d = .int .i64 m ∧ 0 ≤ dd ∧ dd ≤ 5000 * k ∧ Hid (DaAt l o k dd n m) ∧ Hid (Below w.heap.size w wr)) (fun _ _ _ i _ => l.length - (intOf i).toNat)
  case atStart => exact ⟨0, 0, t, 1, Nat.zero_le _, rfl, rfl, rfl, rfl, by omega, by omega, HD0, Lib.hid (Below.refl _ _)⟩
  case round =>
    obtain ⟨k, dd, n, m, hk, rfl, rfl, rfl, rfl, hdd0, hdd1, hA, hB⟩ := hrel
    obtain ⟨W0, rfl⟩ : ∃ W : World, W = wr := ⟨_, rfl⟩
    by_cases hlt : k < l.length
    · obtain ⟨b, p, x, y, rfl, hbl, hlk, c0, c1⟩ := (HS.out.on hB.out (Nat.le_refl _)).2 k hlt
      obtain ⟨hx, hy⟩ := HG.out.at_ hlk
      obtain ⟨ym, hym⟩ : ∃ ym : Nat, y = ym := ⟨y.toNat, by omega⟩
      subst hym
      obtain ⟨⟨hn0, hn1⟩, hm0, hm1⟩ := da_bd hA.out (by omega)
      obtain ⟨M, hM⟩ : ∃ M, n * (ym : Int) = M := ⟨_, rfl⟩
      obtain ⟨B, hBB⟩ : ∃ B, 10 * x * (m : Int) = B := ⟨_, rfl⟩
      have hAb := mulY_bd (a := n) (b := ym) (m := 1670420000000000) (n := 1700) hn0 (by omega) (by omega) (by omega)
      have hBb := mulY_bd (a := 10 * x) (b := m) (m := 50000) (n := 8352100000000) (by omega) (by omega) (by omega) (by omega)
      rw [hM] at hAb
      rw [hBB] at hBb
      obtain ⟨hA0, hA1⟩ := hAb
      obtain ⟨hB0, hB1⟩ := hBb
      obtain ⟨W1, hW1⟩ : ∃ W, W = W0.alloc (.cells #[.int .i64 x, .int .i64 ym] 125) := ⟨_, rfl⟩
      have HX : Hid (Below W0.heap.size W0 W1 ∧ Has W1 W0.heap.size [.int .i64 x, .int .i64 ym]) := by rw [hW1]; exact Lib.hid (box1 (Below.refl _ _))
      have HB1 := Lib.hid (bthen hB.out HX.out.1 hB.out.size)
      have HE := Lib.hid hW1
      have a0 := HX.out.2.at_ 0 _ rfl
      have a1 := HX.out.2.at_ 1 _ rfl
      rw [hW1] at a0 a1
      clear hW1
      by_cases hx2 : M ≤ B
      · have hoe := da_exit hA.out hlk (by rw [hM, hBB]; exact hx2)
        rw [hM] at hoe
        obtain ⟨C, hC⟩ : ∃ C, dd * 10 * (m : Int) = C := ⟨_, rfl⟩
        have hCb := mulY_bd (a := dd * 10) (b := m) (m := 250000) (n := 8352100000000) (by omega) (by omega) (by omega) (by omega)
        rw [hC] at hCb hoe
        obtain ⟨hC0, hC1⟩ := hCb
        obtain ⟨D, hD⟩ : ∃ D, 10 * m = D := ⟨_, rfl⟩
        have hDi : 10 * (m : Int) = (D : Int) := by omega
        rw [hD] at hoe
        obtain ⟨r, hr⟩ : ∃ r, mkRat (C + M) D = r := ⟨_, rfl⟩
        rw [hr] at hoe
        have HOE := Lib.hid hoe
        have HR := Lib.hid hr
        clear hlk hoe hr hD HO HD0 hA
        go_wp2_with fail
        try rw [← HE.out]
        refine (reduceQ_spec (C + M) D r HR.out _ (by omega) (by omega) (by omega) (by omega)).mono ?_
        rintro e w2 ⟨rfl, hb⟩
        have HB2 := Lib.hid (bthen HB1.out hb HB1.out.size)
        clear hb
        go_wp2_with fail
        go_ret3
        exact q3_some HOE.out HB2.out
      · obtain ⟨r, hr, hdn⟩ := da_next hA.out hlk (by rw [hM, hBB]; exact hx2) hx hy
        rw [hM, hBB] at hr
        obtain ⟨D, hD⟩ : ∃ D, m * ym = D := ⟨_, rfl⟩
        have hDb : m * ym ≤ 8352100000000 * 1700 := Nat.mul_le_mul (by omega) (by omega)
        have hDp : 0 < m * ym := Nat.mul_pos (by omega) (by omega)
        have hDi : (m : Int) * (ym : Int) = (D : Int) := by rw [← hD, Int.natCast_mul]
        rw [hD] at hr hDb hDp
        have HDN := Lib.hid hdn
        have HR := Lib.hid hr
        clear hlk hr hD HO HD0 hA hdn
        go_wp2_with fail
        try rw [← HE.out]
        refine (reduceQ_spec (M - B) D r HR.out _ (by omega) (by omega) (by omega) (by omega)).mono ?_
        rintro e w2 ⟨rfl, hb⟩
        have HB2 := Lib.hid (bthen HB1.out hb HB1.out.size)
        have b0 := (HX.out.2.next hb).at_ 0 _ rfl
        have b1 := (HX.out.2.next hb).at_ 1 _ rfl
        clear hb a0 a1
        go_wp2_with fail
        go_roundw
        case rel => exact ⟨k + 1, dd + x, r.num, r.den, by omega, by go_num, by go_num, rfl, rfl, by omega, by omega, HDN, HB2⟩
        case measure => simp [intOf]; omega
    · have HR : Hid (o = none) := by
        obtain ⟨q, h1, _⟩ := hA.out
        obtain rfl : k = l.length := by omega
        rw [List.drop_length] at h1
        exact h1.symm
      go_wp2_with fail
      go_ret3
      exact q3_none HR.out hB.out
end Go.Proofs.Ytdmnkmdlochogab
