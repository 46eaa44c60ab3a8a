/-
  Chains of layers: contracts of impl.water.spread, impl.water.timeTo over this translation. Conditions: stated at each theorem.
-/
import Derived.Test.YtdmnkmdlochogabYw
import Derived.Test.YtdmnkmdlochogabYf
namespace Go.Proofs.Ytdmnkmdlochogab
open Go.RowKit
set_option linter.unusedVariables false

set_option maxRecDepth 20000 in
set_option maxHeartbeats 1600000 in
theorem spread_any (l : List (Int × Int)) : ∀ (P : Option Addr) (d v : Int) (w : World), spr l d = v → Chain w l P → Good l → l.length ≤ 6 → 0 ≤ d → d ≤ 100000 →
    Calls Try.prog 109 #[.pointer P, .int .i64 d] w fun e w' => e = .returned (.int .i64 v) ∧ Below w.heap.size w w' := by
  induction l with
  | nil =>
    intro P d v w hv hc hg h6 h0 h1
    obtain rfl : P = none := hc
    subst hv
    go_enter Try.func109, Try.ntmps109
    go_wp2_with fail
    go_ret
    exact ⟨rfl, Below.refl _ _⟩
  | cons p t ih =>
    intro P d v w hv hc hg h6 h0 h1
    obtain ⟨x, y⟩ := p
    obtain ⟨g, Q, rfl, hlt, c0, c1, c2, hC⟩ := hc
    have hx := hg.head
    obtain ⟨hx, hy⟩ := hx
    simp only at hx hy c0 c1 c2
    have HC := Lib.hid hC
    have HG := Lib.hid hg.tail
    have HI := Lib.hid ih
    have ht6 : t.length ≤ 6 := by simp only [List.length_cons] at h6; omega
    obtain ⟨I, hI⟩ : ∃ I, min d x = I := ⟨_, rfl⟩
    obtain ⟨E, hE⟩ : ∃ E, d - I = E := ⟨_, rfl⟩
    obtain ⟨R, hR⟩ : ∃ R, spr t E = R := ⟨_, rfl⟩
    obtain ⟨M, hM⟩ : ∃ M, I * y = M := ⟨_, rfl⟩
    have hI1 : 0 ≤ I := by omega
    have hI2 : I ≤ 5000 := by omega
    have hI3 : I ≤ d := by omega
    have hMb := mulY_bd (a := I) (b := y) (m := 5000) (n := 1700) (by omega) (by omega) (by omega) (by omega)
    have hRb := spr_bd hg.tail (d := E) (by omega)
    rw [hR] at hRb
    rw [hM] at hMb
    have HV : Hid (M + R = v) := by unfold Hid; rw [← hv, spr]; simp only; rw [hI, hE, hR, hM]
    have HR := Lib.hid hR
    have hRb1 := hRb.1
    have hRb2 : R ≤ 51000000 := by omega
    have hMb1 := hMb.1
    have hMb2 := hMb.2
    have hw1 : IntKind.i64.wrap (I * y) = M := by rw [hM]; exact IntWalk.i64_in _ (by omega)
    have hw3 : IntKind.i64.wrap (M + R) = M + R := IntWalk.i64_in _ (by omega)
    clear hv hC hg ih hR hM hRb hMb
    have hIc : (d ≤ x ∧ d = I ∧ 0 = E) ∨ (¬ d ≤ x ∧ x = I ∧ d - x = E) := by omega
    rcases hIc with ⟨hdx, rfl, rfl⟩ | ⟨hdx, rfl, rfl⟩
    all_goals
      clear hI
      have hw2 : IntKind.i64.wrap (d - x) = d - x := IntWalk.i64_in _ (by omega)
      go_enter Try.func109, Try.ntmps109
      go_wp2_with fail
      have lc0 := lcell (c0)
      have lc1 := lcell (c1)
      have lc2 := lcell (c2)
      refine region_later (W := w) (by kernel_rfl) (by kernel_rfl) (Below.refl _ _) ?_
      repeat (go_big_quiet_step (((go_at_call 109; exact later_call (HI.out _ _ _ _ HR.out (HC.out.next (Later.below _)) HG.out ht6 (by omega) (by omega))))))
      refine wpQuiet_nil ?_
      intro W1 hW1
      have HL : Hid (Below w.heap.size w W1) := by obtain ⟨x, rfl⟩ := hW1; exact Lib.hid x.below
      clear hW1 lc0 lc1 lc2
      go_wp2_with fail
      go_ret
      exact ⟨ret_int HV.out, HL.out⟩
theorem tm_bd {l : List (Int × Int)} (h : Good l) {d : Int} (hd : 0 ≤ d) (hk : l.length ≤ 4) {q : Rat} (hq : tmQ l d = q) : (0 ≤ q.num ∧ q.num ≤ 195 * q.den) ∧ 0 < q.den ∧ q.den ≤ 8352100000000 := by
  subst hq
  have h1 := tmQ_bd h hd
  have h2 := Nat.le_of_dvd (spd_bd h).1 (tmQ_den h d)
  have h3 := (spd_bd h).2
  have h4 : 1700 ^ l.length ≤ 1700 ^ 4 := Nat.pow_le_pow_right (by omega) hk
  refine ⟨⟨Rat.num_nonneg.2 h1.1, ?_⟩, den_pos _, ?_⟩
  · have h5 := (le_num _ _).1 h1.2
    exact Int.le_trans h5 (Int.mul_le_mul_of_nonneg_right (by omega) (by omega))
  · have e : (1700 : Nat) ^ 4 = 8352100000000 := by decide
    omega
set_option maxRecDepth 20000 in
set_option maxHeartbeats 3200000 in
theorem time_any (l : List (Int × Int)) : ∀ (P : Option Addr) (d : Int) (q : Rat) (w : World), tmQ l d = q → Chain w l P → Good l → l.length ≤ 5 → 0 ≤ d → d ≤ 100000 →
    Calls Try.prog 121 #[.pointer P, .int .i64 d] w (FracPost q w) := by
  induction l with
  | nil =>
    intro P d q w hv hc hg h6 h0 h1
    obtain rfl : P = none := hc
    subst hv
    go_enter Try.func121, Try.ntmps121
    go_wp2_with fail
    refine bodyPost_ret (v := .agg #[.int .i64 0, .int .i64 1]) (by simp [results, Try.results121, go_sem]) rfl ⟨rfl, ?_⟩
    repeat (first | exact Below.refl _ _ | refine Below.setCell ?_ (by simp; try omega) _ | refine Below.alloc ?_ (by simp; try omega) _)
  | cons p t ih =>
    intro P d q w hv hc hg h6 h0 h1
    obtain ⟨x, y⟩ := p
    obtain ⟨V, hV⟩ : ∃ V, V = w.alloc (.cells #[.int .i64 0, .int .i64 0] 131) := ⟨_, rfl⟩
    have HV0 : Hid (Below w.heap.size w V ∧ Has V w.heap.size [.int .i64 0, .int .i64 0]) := by rw [hV]; exact box1 (Below.refl _ _)
    obtain ⟨g, Q, rfl, hlt, c0, c1, c2, hC⟩ := hc
    replace c0 := cell_next HV0.out.1 c0
    replace c1 := cell_next HV0.out.1 c1
    replace c2 := cell_next HV0.out.1 c2
    have hx := hg.head
    obtain ⟨hx, hy⟩ := hx
    simp only at hx hy c0 c1 c2
    have k0 := c0
    rw [hV] at k0
    have HC := Lib.hid (hC.next HV0.out.1)
    have HG := Lib.hid hg.tail
    have HI := Lib.hid ih
    have ht6 : t.length ≤ 4 := by simp only [List.length_cons] at h6; omega
    obtain ⟨I, hI⟩ : ∃ I, min d x = I := ⟨_, rfl⟩
    obtain ⟨E, hE⟩ : ∃ E, d - I = E := ⟨_, rfl⟩
    obtain ⟨r, hR⟩ : ∃ r, tmQ t E = r := ⟨_, rfl⟩
    obtain ⟨ym, hym⟩ : ∃ ym : Nat, y = ym := ⟨y.toNat, by omega⟩
    subst hym
    have hI1 : 0 ≤ I := by omega
    have hI2 : I ≤ 5000 := by omega
    have hI3 : I ≤ d := by omega
    have hrb := tm_bd hg.tail (d := E) (by omega) ht6 hR
    have hq : mkRat (r.num * (ym : Int) + 10 * I * (r.den : Int)) (r.den * ym) = q := by
      rw [← hv, tmQ]; simp only; rw [hI, hE, hR, Int.toNat_natCast]
      conv => rhs; lhs; rw [← mk_self r]
      rw [mk_add _ _ (den_pos r) (by omega)]
    have hb1 := mulY_bd (a := r.num) (b := ym) (m := 1628659500000000) (n := 1700) hrb.1.1 (by omega) (by omega) (by omega)
    have hb2 := mulY_bd (a := 10 * I) (b := r.den) (m := 50000) (n := 8352100000000) (by omega) (by omega) (by omega) (by omega)
    have hb3 : r.den * ym ≤ 8352100000000 * 1700 := Nat.mul_le_mul (by omega) (by omega)
    have HPL := Lib.hid (fun W => plus_impl r.num (10 * I) r.den ym q hq W (by omega) (by omega) (by omega) (by omega) hrb.2.1 (by omega) (by omega))
    have HR := Lib.hid hR
    have HE := Lib.hid hV
    clear hv hC hg ih hR hq hb1 hb2 hb3 hrb hV
    have hIc : (d ≤ x ∧ d = I ∧ 0 = E) ∨ (¬ d ≤ x ∧ x = I ∧ d - x = E) := by omega
    rcases hIc with ⟨hdx, rfl, rfl⟩ | ⟨hdx, rfl, rfl⟩
    all_goals
      clear hI
      have hw2 : IntKind.i64.wrap (d - x) = d - x := IntWalk.i64_in _ (by omega)
      go_enter Try.func121, Try.ntmps121
      go_wp2_with fail
      rw [← HE.out]
      clear k0
      have lc0 := lcell c0
      have lc1 := lcell c1
      have lc2 := lcell c2
      refine region_perm (W := V) 13 [0, 1, 2, 3, 4, 5, 6, 8, 9, 10, 11, 12] [7] (by kernel_rfl) (by kernel_rfl) (Below.refl _ _) (fun d _ _ _ _ h => by cases d <;> exact h) ?_
      simp only [picks, List.getElem?_cons_succ, List.getElem?_cons_zero, List.drop_succ_cons, List.drop_zero]
      repeat (go_big_quiet_step (fail))
      refine wpQuiet_nil ?_
      intro W3 hW1
      have HL : Hid (Below V.heap.size V W3) := by obtain ⟨x, rfl⟩ := hW1; exact Lib.hid x.below
      clear hW1 lc0 lc1 lc2 c0 c1 c2
      simp only [wpMem]
      refine wpOp_step rfl (fun K hK => ?_)
      rw [if_pos (by rfl)]
      go_simp
      refine (HI.out _ _ _ _ HR.out (HC.out.next HL.out) HG.out (by omega) (by omega) (by omega)).mono ?_
      rintro e w4 ⟨rfl, hb⟩
      have HB4 := Lib.hid (bthen HL.out hb HL.out.size)
      refine hK _ _ ⟨⟨⟨_, HB4.out⟩, rfl⟩, ?_⟩
      clear hK K hb
      go_wp2_with fail
      refine (timeFor_impl _ _ _ _ rfl _ (by omega) (by omega)).mono ?_
      rintro e w5 ⟨rfl, hb⟩
      have HB5 := Lib.hid (bthen HB4.out hb HB4.out.size)
      clear hb
      go_wp2_with fail
      refine (HPL.out _).mono ?_
      rintro e w6 ⟨rfl, hb⟩
      have HB6 := Lib.hid (bthen HB5.out hb HB5.out.size)
      clear hb
      have HN := Lib.hid (And.intro (bthen HV0.out.1 HB6.out HV0.out.1.size) (HV0.out.2.next HB6.out))
      have z0 := HN.out.2.at_ 0 _ rfl
      have z1 := HN.out.2.at_ 1 _ rfl
      have zf0 := HN.out.2.free 0
      have zf1 := HN.out.2.free 1
      go_wp2_with fail
      refine bodyPost_ret (v := .agg #[.int .i64 q.num, .int .i64 q.den]) (by simp [results, Try.results121, go_sem, z0, z1]) rfl ⟨rfl, ?_⟩
      repeat (first | exact HN.out.1 | refine Below.setCell ?_ (by simp; try omega) _)
end Go.Proofs.Ytdmnkmdlochogab
