/-
  Chains of layers: contract of impl.water.depthAfter over this translation. Conditions: stated at each theorem.
-/
import Derived.Test.YtdmnkmdlochogabYi
import Derived.Deep.DeepCutAuto
namespace Go.Proofs.Ytdmnkmdlochogab
open Go.RowKit
set_option linter.unusedVariables false

/-- A fraction or none, handed back as a struct and a bool. -/
def AftPost (o : Option Rat) (w : World) (e : Ending) (w' : World) : Prop := e = .returned (.tuple #[.agg #[.int .i64 (qN o), .int .i64 (qD o)], .bool (qK o)]) ∧ Below w.heap.size w w'
theorem aft_none {o : Option Rat} {w w' : World} (h : o = none) (hb : Below w.heap.size w w') : AftPost o w (.returned (.tuple #[.agg #[.int .i64 0, .int .i64 0], .bool false])) w' := by
  subst h; exact ⟨rfl, hb⟩
theorem aft_some {o : Option Rat} {r : Rat} {w w' : World} (h : o = some r) (hb : Below w.heap.size w w') : AftPost o w (.returned (.tuple #[.agg #[.int .i64 r.num, .int .i64 r.den], .bool true])) w' := by
  subst h; exact ⟨rfl, hb⟩
theorem pow_step (m t D : Nat) (h : m * 1700 ^ (t + 1) ≤ D * 1700) : m * 1700 ^ t ≤ D := by
  rw [Nat.pow_succ, ← Nat.mul_assoc] at h
  exact Nat.le_of_mul_le_mul_right h (by omega)
theorem le_pow (m t D : Nat) (h : m * 1700 ^ t ≤ D) : m ≤ D := Nat.le_trans (Nat.le_mul_of_pos_right _ (Nat.pow_pos (by omega))) h
/-- The cut behind the layer's own time. -/
def CutW (V W : World) (g : Nat) (a b : Int) : Prop := Below V.heap.size V W ∧ Has W g [.int .i64 a, .int .i64 b]
theorem cutW_call {V W W' : World} {g : Nat} {a b : Int} (h : CutW V W g a b) (hb : Below W.heap.size W W') : CutW V W' g a b := ⟨bthen h.1 hb h.1.size, h.2.next hb⟩
theorem cutW_set {V W : World} {g : Nat} {a b c d : Int} (h : CutW V W g a b) (hg : V.heap.size ≤ g) : CutW V ((W.setCell ⟨g, 0, none⟩ (.int .i64 c)).setCell ⟨g, 1, none⟩ (.int .i64 d)) g c d :=
  ⟨(h.1.setCell (p := ⟨g, 0, none⟩) hg _).setCell (p := ⟨g, 1, none⟩) hg _, by simpa using (h.2.set 0 (.int .i64 c)).set 1 (.int .i64 d)⟩
theorem alloc_hb {V W : World} (h : Below V.heap.size V W) (o : Obj) : Below V.heap.size V (W.alloc o) := h.alloc h.size o
set_option maxRecDepth 20000 in
set_option maxHeartbeats 6400000 in
theorem after_any (l : List (Int × Int)) : ∀ (P : Option Addr) (n : Int) (m : Nat) (q : Rat) (o : Option Rat) (w : World), dpQ l q = o → q.num = n → q.den = m → Chain w l P → Good l → l.length ≤ 5 → 0 ≤ q → q ≤ ((200 : Int) : Rat) → m * 1700 ^ l.length ≤ 14198570000000000 →
    Calls Try.prog 123 #[.pointer P, .agg #[.int .i64 n, .int .i64 m]] w (AftPost o w) := by
  induction l with
  | nil =>
    intro P n m q o w hv hn hm hc hg h5 h0 h1 hD
    obtain rfl : P = none := hc
    have HV := Lib.hid hv.symm
    clear hv
    go_enter Try.func123, Try.ntmps123
    go_wp2_with fail
    refine bodyPost_ret (v := .tuple #[.agg #[.int .i64 0, .int .i64 0], .bool false]) (by simp [results, Try.results123, go_sem]) rfl (aft_none HV.out ?_)
    repeat (first | exact Below.refl _ _ | refine Below.setCell ?_ (by simp; try omega) _ | refine Below.alloc ?_ (by simp; try omega) _)
  | cons p t ih =>
    intro P n m q o w hv hn hm hc hg h5 h0 h1 hD
    obtain ⟨x, y⟩ := p
    obtain ⟨V, hV⟩ : ∃ V, V = (w.alloc (.cells #[.int .i64 n, .int .i64 m] 131)).alloc (.cells #[.int .i64 0, .int .i64 0] 131) := ⟨_, rfl⟩
    have HV0 : Hid (Below w.heap.size w V ∧ Has V w.heap.size [.int .i64 n, .int .i64 m] ∧ Has V (w.heap.size + 1) [.int .i64 0, .int .i64 0]) := by rw [hV]; exact box2 (Below.refl _ _)
    obtain ⟨g, Q, rfl, hlt, c0, c1, c2, hC⟩ := hc
    replace c0 := cell_next HV0.out.1 c0
    replace c1 := cell_next HV0.out.1 c1
    replace c2 := cell_next HV0.out.1 c2
    have hx := hg.head
    obtain ⟨hx, hy⟩ := hx
    simp only at hx hy c0 c1 c2
    have HC := Lib.hid (hC.next HV0.out.1)
    have HE := Lib.hid hV
    have HI := Lib.hid ih
    clear ih hC hV
    have ht5 : t.length ≤ 4 := by simp only [List.length_cons] at h5; omega
    have HGT := Lib.hid hg.tail
    obtain ⟨ym, hym⟩ : ∃ ym : Nat, y = ym := ⟨y.toNat, by omega⟩
    subst hym
    have hmp : 0 < m := by rw [← hm]; exact den_pos q
    have hD2 : m * 1700 ^ t.length ≤ 8352100000000 := pow_step m t.length _ (by simpa [List.length_cons] using hD)
    have hD3 : m * 1700 * 1700 ^ t.length ≤ 14198570000000000 := by rw [Nat.mul_right_comm]; omega
    have hm1 : m ≤ 8352100000000 := le_pow m t.length _ hD2
    have hn0 : 0 ≤ n := by rw [← hn]; exact Rat.num_nonneg.2 h0
    have hn1 : n ≤ 200 * (m : Int) := by rw [← hn, ← hm]; exact (le_num _ _).1 h1
    obtain ⟨A, hA⟩ : ∃ A, n * (ym : Int) = A := ⟨_, rfl⟩
    obtain ⟨B, hB⟩ : ∃ B, 10 * x * (m : Int) = B := ⟨_, rfl⟩
    have hAb := mulY_bd (a := n) (b := ym) (m := 1670420000000000) (n := 1700) hn0 (by omega) (by omega) (by omega)
    have hBb := mulY_bd (a := 10 * x) (b := m) (m := 50000) (n := 8352100000000) (by omega) (by omega) (by omega) (by omega)
    rw [hA] at hAb
    rw [hB] at hBb
    obtain ⟨hA0, hA1⟩ := hAb
    obtain ⟨hB0, hB1⟩ := hBb
    have HAB := Lib.hid (And.intro hA hB)
    have hstop : q.num * ((x, (ym : Int)) : Int × Int).2 ≤ 10 * ((x, (ym : Int)) : Int × Int).1 * q.den ↔ A ≤ B := by simp only; rw [hn, hm, hA, hB]
    have HST := Lib.hid hstop
    have HV := Lib.hid hv
    have HN := Lib.hid (And.intro hn hm)
    have HQ0 := Lib.hid (And.intro h0 h1)
    clear hstop hv hn hm h0 h1 hA hB hD
    go_enter Try.func123, Try.ntmps123
    go_wp2_with fail
    rw [← HE.out]
    go_cut [6] (fun p wx => ∃ g : Nat, p = .pointer (some ⟨g, 0, none⟩) ∧ Hid (CutW V wx g (10 * x) ym))
    case first =>
      have lc0 := lcell c0
      have lc1 := lcell c1
      refine region_reads (W := V) 11 3 [0, 1, 2, 3, 4, 5, 6, 7, 8] (by kernel_rfl) (by kernel_rfl) rfl (Below.refl _ _) (fun d _ _ _ _ h => by cases d <;> exact h) ?_
      simp only [picks, List.getElem?_cons_succ, List.getElem?_cons_zero]
      repeat (go_big_quiet_step (fail))
      refine wpQuiet_nil ?_
      intro W3 hW1
      have HL : Hid (Below V.heap.size V W3) := by obtain ⟨x, rfl⟩ := hW1; exact Lib.hid x.below
      clear hW1 lc0 lc1 c0 c1 c2
      refine wpAnyN_two (i := 9) (i' := 10) (by kernel_rfl) ?_ ?_
      · skip
        refine wpOp_step rfl (fun K hK => ?_)
        rw [if_pos (by rfl)]
        go_simp
        refine (timeFor_impl _ _ _ _ rfl _ (by omega) (by omega)).mono ?_
        rintro e x1 ⟨rfl, hb⟩
        have HX1 := Lib.hid (bthen HL.out hb HL.out.size)
        refine hK _ _ ⟨⟨⟨_, HX1.out⟩, rfl⟩, ?_⟩
        clear hK K hb
        refine wpAnyN_one (i := 10) (by kernel_rfl) ?_
        refine wpOp_step rfl (fun K hK => ?_)
        rw [if_pos (by rfl)]
        go_simp
        have HX2 := Lib.hid (alloc_hb HX1.out (.cells #[.int .i64 0, .int .i64 0] 131))
        have HA2 : Hid (CutW V (x1.alloc (.cells #[.int .i64 0, .int .i64 0] 131)) x1.heap.size 0 0) := Lib.hid ⟨HX2.out, (box1 (Below.refl _ _)).2⟩
        have HG := Lib.hid HX1.out.size
        refine hK _ _ ⟨⟨⟨_, HX2.out⟩, rfl⟩, ?_⟩
        clear hK K
        obtain ⟨x2, hx2⟩ : ∃ X, X = x1.alloc (.cells #[.int .i64 0, .int .i64 0] 131) := ⟨_, rfl⟩
        rw [← hx2]
        rw [← hx2] at HX2 HA2
        clear hx2
        refine wpAnyN_end rfl (by kernel_rfl) rfl ?_
        simp only [List.drop_succ_cons, List.drop_zero]
        have z0 := HA2.out.2.at_ 0 _ rfl
        have z1 := HA2.out.2.at_ 1 _ rfl
        have zf0 := HA2.out.2.free 0
        have zf1 := HA2.out.2.free 1
        go_wp2_with fail
        go_meet
        exact ⟨_, rfl, Lib.hid (cutW_set HA2.out HG.out)⟩
      · skip
        refine wpOp_step rfl (fun K hK => ?_)
        rw [if_pos (by rfl)]
        go_simp
        have HX1 := Lib.hid (alloc_hb HL.out (.cells #[.int .i64 0, .int .i64 0] 131))
        have HA1 : Hid (CutW V (W3.alloc (.cells #[.int .i64 0, .int .i64 0] 131)) W3.heap.size 0 0) := Lib.hid ⟨HX1.out, (box1 (Below.refl _ _)).2⟩
        have HG := Lib.hid HL.out.size
        refine hK _ _ ⟨⟨⟨_, HX1.out⟩, rfl⟩, ?_⟩
        clear hK K
        obtain ⟨x1, hx1⟩ : ∃ X, X = W3.alloc (.cells #[.int .i64 0, .int .i64 0] 131) := ⟨_, rfl⟩
        rw [← hx1]
        rw [← hx1] at HX1 HA1
        clear hx1
        refine wpAnyN_one (i := 9) (by kernel_rfl) ?_
        refine wpOp_step rfl (fun K hK => ?_)
        rw [if_pos (by rfl)]
        go_simp
        refine (timeFor_impl _ _ _ _ rfl _ (by omega) (by omega)).mono ?_
        rintro e x2 ⟨rfl, hb⟩
        have HX2 := Lib.hid (bthen HX1.out hb HX1.out.size)
        have HA2 := Lib.hid (cutW_call HA1.out hb)
        skip
        refine hK _ _ ⟨⟨⟨_, HX2.out⟩, rfl⟩, ?_⟩
        clear hK K hb
        refine wpAnyN_end rfl (by kernel_rfl) rfl ?_
        simp only [List.drop_succ_cons, List.drop_zero]
        have z0 := HA2.out.2.at_ 0 _ rfl
        have z1 := HA2.out.2.at_ 1 _ rfl
        have zf0 := HA2.out.2.free 0
        have zf1 := HA2.out.2.free 1
        go_wp2_with fail
        go_meet
        exact ⟨_, rfl, Lib.hid (cutW_set HA2.out HG.out)⟩
    case rest =>
      obtain ⟨g2, rfl, hW⟩ := hcut
      obtain ⟨W4, rfl⟩ : ∃ W4 : World, W4 = wc := ⟨_, rfl⟩
      have HB4 := Lib.hid (bthen HV0.out.1 hW.out.1 HV0.out.1.size)
      have HT4 := Lib.hid (HV0.out.2.1.next hW.out.1)
      have HZ4 := Lib.hid (HV0.out.2.2.next hW.out.1)
      have HC4 := Lib.hid (HC.out.next hW.out.1)
      replace c0 := cell_next hW.out.1 c0
      replace c1 := cell_next hW.out.1 c1
      replace c2 := cell_next hW.out.1 c2
      have a0 := HT4.out.at_ 0 _ rfl
      have a1 := HT4.out.at_ 1 _ rfl
      have b0 := hW.out.2.at_ 0 _ rfl
      have b1 := hW.out.2.at_ 1 _ rfl
      clear HC
      by_cases hx2 : A ≤ B
      · have HO : Hid (o = some (mkRat A (10 * m))) := by unfold Hid; rw [← HV.out, dpQ, if_pos (HST.out.2 hx2)]; simp only; rw [HN.out.1, HN.out.2, HAB.out.1]
        obtain ⟨r, hr⟩ : ∃ r, mkRat A (10 * m) = r := ⟨_, rfl⟩
        rw [hr] at HO
        have HR := Lib.hid hr
        have hd : decide (B < A) = false := decide_eq_false (by omega)
        have hw1 : IntKind.i64.wrap (n * (ym : Int)) = A := by rw [HAB.out.1]; exact IntWalk.i64_in _ (by omega)
        obtain ⟨M, hM⟩ : ∃ M, 10 * m = M := ⟨_, rfl⟩
        rw [hM] at HR
        have hw2 : IntKind.i64.wrap (10 * (m : Int)) = (M : Int) := by rw [← hM]; exact IntWalk.i64_in _ (by omega)
        clear hr
        go_wp2_with fail
        refine (above_impl _ _ _ _ A B HAB.out.1 HAB.out.2 _ (by omega) (by omega) (by omega) (by omega)).mono ?_
        rintro e W5 ⟨rfl, hb⟩
        have HB5 := Lib.hid (bthen HB4.out hb HB4.out.size)
        have HZ5 := Lib.hid (HZ4.out.next hb)
        replace c1 := cell_next hb c1
        replace a0 := cell_next hb a0
        replace a1 := cell_next hb a1
        clear c0 c2 b0 b1 hb
        go_wp2_with fail
        have lc0 := lcell (a0)
        have lc1 := lcell (a1)
        have lc2 := lcell (c1)
        refine region_later (W := W5) (by kernel_rfl) (by kernel_rfl) (Below.refl _ _) ?_
        repeat (go_big_quiet_step ((go_at_call 107; exact later_call (lowestQ_impl A M r HR.out _ (by omega) (by omega) (by omega) (by omega)))))
        refine wpQuiet_nil ?_
        intro W6 hW1
        have HL : Hid (Below W5.heap.size W5 W6) := by obtain ⟨x, rfl⟩ := hW1; exact Lib.hid x.below
        clear hW1 lc0 lc1 lc2
        have HB6 := Lib.hid (bthen HB5.out HL.out HB5.out.size)
        have HZ6 := Lib.hid (HZ5.out.next HL.out)
        have z0 := HZ6.out.at_ 0 _ rfl
        have z1 := HZ6.out.at_ 1 _ rfl
        have zf0 := HZ6.out.free 0
        have zf1 := HZ6.out.free 1
        go_wp2_with fail
        refine bodyPost_ret (v := .tuple #[.agg #[.int .i64 r.num, .int .i64 r.den], .bool true]) (by simp [results, Try.results123, go_sem, z0, z1]) rfl (aft_some HO.out ?_)
        repeat (first | exact HB6.out | refine Below.setCell ?_ (by simp; try omega) _)
      · have hns : ¬ q.num * ((x, (ym : Int)) : Int × Int).2 ≤ 10 * ((x, (ym : Int)) : Int × Int).1 * q.den := fun h => hx2 (HST.out.1 h)
        obtain ⟨q', hq'⟩ : ∃ q', q - mkRat (10 * x) (ym : Int).toNat = q' := ⟨_, rfl⟩
        obtain ⟨o', ho'⟩ : ∃ o', dpQ t q' = o' := ⟨_, rfl⟩
        have HO : Hid (o = o'.map (· + (x : Rat))) := by unfold Hid; rw [← HV.out, dpQ, if_neg hns]; simp only; rw [hq', ho']
        have hrb := rem_bd (D := m * 1700) HQ0.out.1 HQ0.out.2 hx hy (by simpa using hns) (by rw [HN.out.2]; omega)
        rw [hq'] at hrb
        have hpl : mkRat (n * (ym : Int) + -(10 * x) * (m : Int)) (m * ym) = q' := by
          rw [← hq', rem_eq q (by omega), HN.out.1, HN.out.2, Int.toNat_natCast, Int.neg_mul, Int.sub_eq_add_neg]
        have hDm : m * ym ≤ 8352100000000 * 1700 := Nat.mul_le_mul hm1 (by omega)
        have HPL := Lib.hid (fun W => plus_impl n (-(10 * x)) m ym q' hpl W (by have := HAB.out.1; omega) (by have := HAB.out.1; omega) (by have := HAB.out.2; rw [Int.neg_mul]; omega) (by have := HAB.out.2; rw [Int.neg_mul]; omega) hmp (by omega) (by omega))
        obtain ⟨N1, hN1⟩ : ∃ N1, qN o' = N1 := ⟨_, rfl⟩
        obtain ⟨D1, hD1⟩ : ∃ D1, qD o' = D1 := ⟨_, rfl⟩
        obtain ⟨K1, hK1⟩ : ∃ K1, qK o' = K1 := ⟨_, rfl⟩
        have hqD : q'.den * 1700 ^ t.length ≤ 14198570000000000 := Nat.le_trans (Nat.mul_le_mul_right _ hrb.2.2) hD3
        have HIC : Hid (∀ W, Chain W t Q → Calls Try.prog 123 #[.pointer Q, .agg #[.int .i64 q'.num, .int .i64 q'.den]] W fun e w' => e = .returned (.tuple #[.agg #[.int .i64 N1, .int .i64 D1], .bool K1]) ∧ Below W.heap.size W w') := by
          subst hN1 hD1 hK1
          exact Lib.hid fun W hC => HI.out Q _ _ q' o' W ho' rfl rfl hC HGT.out (by omega) hrb.1 hrb.2.1 hqD
        have HRB := Lib.hid (fun r hr => dp_bd (D := 8352100000000) (r := r) HGT.out hrb.1 (ho'.trans hr) (by omega))
        have HOO := Lib.hid (And.intro hN1 (And.intro hD1 hK1))
        have hd : decide (B < A) = true := decide_eq_true (by omega)
        clear hns hq' ho' hrb hpl hDm hN1 hD1 hK1 hqD HI
        go_wp2_with fail
        refine (above_impl _ _ _ _ A B HAB.out.1 HAB.out.2 _ (by omega) (by omega) (by omega) (by omega)).mono ?_
        rintro e W5 ⟨rfl, hb⟩
        have HB5 := Lib.hid (bthen HB4.out hb HB4.out.size)
        have HZ5 := Lib.hid (HZ4.out.next hb)
        have HC5 := Lib.hid (HC4.out.next hb)
        replace c0 := cell_next hb c0
        replace c2 := cell_next hb c2
        replace a0 := cell_next hb a0
        replace a1 := cell_next hb a1
        replace b0 := cell_next hb b0
        replace b1 := cell_next hb b1
        clear c1 hb
        go_wp2_with fail
        go_cut [9, 10] (fun p k wx => ∃ g : Nat, p = .pointer (some ⟨g, 0, none⟩) ∧ k = .bool K1 ∧ Hid (CutW W5 wx g N1 D1))
        case first =>
          have lc0 := lcell c2
          have lc1 := lcell a0
          have lc2 := lcell a1
          have lc3 := lcell b0
          have lc4 := lcell b1
          refine region_reads (W := W5) 14 9 [0, 1, 2, 3, 4, 5] (by kernel_rfl) (by kernel_rfl) rfl (Below.refl _ _) (fun d _ _ _ _ h => by cases d <;> exact h) ?_
          simp only [picks, List.getElem?_cons_succ, List.getElem?_cons_zero]
          repeat (go_big_quiet_step (fail))
          refine wpQuiet_nil ?_
          intro W3 hW1
          have HL : Hid (Below W5.heap.size W5 W3) := by obtain ⟨x, rfl⟩ := hW1; exact Lib.hid x.below
          clear hW1 lc0 lc1 lc2 lc3 lc4 c0 c2 a0 a1 b0 b1
          refine wpAnyN_two (i := 6) (i' := 12) (by kernel_rfl) ?_ ?_
          · skip
            refine wpOp_step rfl (fun K hK => ?_)
            rw [if_pos (by rfl)]
            go_simp
            refine (neg_impl _ _ _ (by omega) (by omega)).mono ?_
            rintro e x1 ⟨rfl, hb⟩
            have HX1 := Lib.hid (bthen HL.out hb HL.out.size)
            refine hK _ _ ⟨⟨⟨_, HX1.out⟩, rfl⟩, ?_⟩
            clear hK K hb
            refine wpAnyN_two (i := 7) (i' := 12) (by kernel_rfl) ?_ ?_
            · skip
              refine wpOp_step rfl (fun K hK => ?_)
              rw [if_pos (by rfl)]
              go_simp
              refine (HPL.out _).mono ?_
              rintro e x2 ⟨rfl, hb⟩
              have HX2 := Lib.hid (bthen HX1.out hb HX1.out.size)
              refine hK _ _ ⟨⟨⟨_, HX2.out⟩, rfl⟩, ?_⟩
              clear hK K hb
              refine wpAnyN_two (i := 8) (i' := 12) (by kernel_rfl) ?_ ?_
              · skip
                refine wpOp_step rfl (fun K hK => ?_)
                rw [if_pos (by rfl)]
                go_simp
                refine (HIC.out _ (HC5.out.next HX2.out)).mono ?_
                rintro e x3 ⟨rfl, hb⟩
                have HX3 := Lib.hid (bthen HX2.out hb HX2.out.size)
                refine hK _ _ ⟨⟨⟨_, HX3.out⟩, rfl⟩, ?_⟩
                clear hK K hb
                refine wpAnyN_pure (i := 9) (.tuple #[.agg #[.int .i64 N1, .int .i64 D1], .bool K1]) (by kernel_rfl) rfl (fun w => by simp [execOp, Act.eval, go_sem]) (fun d _ _ _ _ h => by cases d <;> exact h) ⟨⟨_, HX3.out⟩, rfl⟩ ?_
                go_simp
                refine wpAnyN_pure (i := 10) (.agg #[.int .i64 N1, .int .i64 D1]) (by kernel_rfl) rfl (fun w => by simp [execOp, Act.eval, go_sem]) (fun d _ _ _ _ h => by cases d <;> exact h) ⟨⟨_, HX3.out⟩, rfl⟩ ?_
                go_simp
                refine wpAnyN_pure (i := 11) (.bool K1) (by kernel_rfl) rfl (fun w => by simp [execOp, Act.eval, go_sem]) (fun d _ _ _ _ h => by cases d <;> exact h) ⟨⟨_, HX3.out⟩, rfl⟩ ?_
                go_simp
                refine wpAnyN_one (i := 12) (by kernel_rfl) ?_
                refine wpOp_step rfl (fun K hK => ?_)
                rw [if_pos (by rfl)]
                go_simp
                have HX4 := Lib.hid (alloc_hb HX3.out (.cells #[.int .i64 0, .int .i64 0] 131))
                have HA4 : Hid (CutW W5 (x3.alloc (.cells #[.int .i64 0, .int .i64 0] 131)) x3.heap.size 0 0) := Lib.hid ⟨HX4.out, (box1 (Below.refl _ _)).2⟩
                have HG := Lib.hid HX3.out.size
                refine hK _ _ ⟨⟨⟨_, HX4.out⟩, rfl⟩, ?_⟩
                clear hK K
                obtain ⟨x4, hx4⟩ : ∃ X, X = x3.alloc (.cells #[.int .i64 0, .int .i64 0] 131) := ⟨_, rfl⟩
                rw [← hx4]
                rw [← hx4] at HX4 HA4
                clear hx4
                have z0 := HA4.out.2.at_ 0 _ rfl
                have z1 := HA4.out.2.at_ 1 _ rfl
                have zf0 := HA4.out.2.free 0
                have zf1 := HA4.out.2.free 1
                refine wpAnyN_one (i := 13) (by kernel_rfl) ?_
                refine wpOp_step rfl (fun K hK => ?_)
                rw [if_pos (by rfl)]
                go_simp
                refine hK _ _ ⟨⟨⟨_, (cutW_set HA4.out HG.out).1⟩, rfl⟩, ?_⟩
                clear hK K
                refine wpAnyN_end rfl (by kernel_rfl) rfl ?_
                simp only [List.drop_succ_cons, List.drop_zero]
                go_wp2_with fail
                go_meet
                exact ⟨_, rfl, rfl, Lib.hid (cutW_set HA4.out HG.out)⟩
              · skip
                refine wpOp_step rfl (fun K hK => ?_)
                rw [if_pos (by rfl)]
                go_simp
                have HX3 := Lib.hid (alloc_hb HX2.out (.cells #[.int .i64 0, .int .i64 0] 131))
                have HA3 : Hid (CutW W5 (x2.alloc (.cells #[.int .i64 0, .int .i64 0] 131)) x2.heap.size 0 0) := Lib.hid ⟨HX3.out, (box1 (Below.refl _ _)).2⟩
                have HG := Lib.hid HX2.out.size
                refine hK _ _ ⟨⟨⟨_, HX3.out⟩, rfl⟩, ?_⟩
                clear hK K
                obtain ⟨x3, hx3⟩ : ∃ X, X = x2.alloc (.cells #[.int .i64 0, .int .i64 0] 131) := ⟨_, rfl⟩
                rw [← hx3]
                rw [← hx3] at HX3 HA3
                clear hx3
                refine wpAnyN_one (i := 8) (by kernel_rfl) ?_
                refine wpOp_step rfl (fun K hK => ?_)
                rw [if_pos (by rfl)]
                go_simp
                refine (HIC.out _ (HC5.out.next HX3.out)).mono ?_
                rintro e x4 ⟨rfl, hb⟩
                have HX4 := Lib.hid (bthen HX3.out hb HX3.out.size)
                have HA4 := Lib.hid (cutW_call HA3.out hb)
                skip
                refine hK _ _ ⟨⟨⟨_, HX4.out⟩, rfl⟩, ?_⟩
                clear hK K hb
                refine wpAnyN_pure (i := 9) (.tuple #[.agg #[.int .i64 N1, .int .i64 D1], .bool K1]) (by kernel_rfl) rfl (fun w => by simp [execOp, Act.eval, go_sem]) (fun d _ _ _ _ h => by cases d <;> exact h) ⟨⟨_, HX4.out⟩, rfl⟩ ?_
                go_simp
                refine wpAnyN_pure (i := 10) (.agg #[.int .i64 N1, .int .i64 D1]) (by kernel_rfl) rfl (fun w => by simp [execOp, Act.eval, go_sem]) (fun d _ _ _ _ h => by cases d <;> exact h) ⟨⟨_, HX4.out⟩, rfl⟩ ?_
                go_simp
                refine wpAnyN_pure (i := 11) (.bool K1) (by kernel_rfl) rfl (fun w => by simp [execOp, Act.eval, go_sem]) (fun d _ _ _ _ h => by cases d <;> exact h) ⟨⟨_, HX4.out⟩, rfl⟩ ?_
                go_simp
                have z0 := HA4.out.2.at_ 0 _ rfl
                have z1 := HA4.out.2.at_ 1 _ rfl
                have zf0 := HA4.out.2.free 0
                have zf1 := HA4.out.2.free 1
                refine wpAnyN_one (i := 13) (by kernel_rfl) ?_
                refine wpOp_step rfl (fun K hK => ?_)
                rw [if_pos (by rfl)]
                go_simp
                refine hK _ _ ⟨⟨⟨_, (cutW_set HA4.out HG.out).1⟩, rfl⟩, ?_⟩
                clear hK K
                refine wpAnyN_end rfl (by kernel_rfl) rfl ?_
                simp only [List.drop_succ_cons, List.drop_zero]
                go_wp2_with fail
                go_meet
                exact ⟨_, rfl, rfl, Lib.hid (cutW_set HA4.out HG.out)⟩
            · skip
              refine wpOp_step rfl (fun K hK => ?_)
              rw [if_pos (by rfl)]
              go_simp
              have HX2 := Lib.hid (alloc_hb HX1.out (.cells #[.int .i64 0, .int .i64 0] 131))
              have HA2 : Hid (CutW W5 (x1.alloc (.cells #[.int .i64 0, .int .i64 0] 131)) x1.heap.size 0 0) := Lib.hid ⟨HX2.out, (box1 (Below.refl _ _)).2⟩
              have HG := Lib.hid HX1.out.size
              refine hK _ _ ⟨⟨⟨_, HX2.out⟩, rfl⟩, ?_⟩
              clear hK K
              obtain ⟨x2, hx2⟩ : ∃ X, X = x1.alloc (.cells #[.int .i64 0, .int .i64 0] 131) := ⟨_, rfl⟩
              rw [← hx2]
              rw [← hx2] at HX2 HA2
              clear hx2
              refine wpAnyN_one (i := 7) (by kernel_rfl) ?_
              refine wpOp_step rfl (fun K hK => ?_)
              rw [if_pos (by rfl)]
              go_simp
              refine (HPL.out _).mono ?_
              rintro e x3 ⟨rfl, hb⟩
              have HX3 := Lib.hid (bthen HX2.out hb HX2.out.size)
              have HA3 := Lib.hid (cutW_call HA2.out hb)
              skip
              refine hK _ _ ⟨⟨⟨_, HX3.out⟩, rfl⟩, ?_⟩
              clear hK K hb
              refine wpAnyN_one (i := 8) (by kernel_rfl) ?_
              refine wpOp_step rfl (fun K hK => ?_)
              rw [if_pos (by rfl)]
              go_simp
              refine (HIC.out _ (HC5.out.next HX3.out)).mono ?_
              rintro e x4 ⟨rfl, hb⟩
              have HX4 := Lib.hid (bthen HX3.out hb HX3.out.size)
              have HA4 := Lib.hid (cutW_call HA3.out hb)
              skip
              refine hK _ _ ⟨⟨⟨_, HX4.out⟩, rfl⟩, ?_⟩
              clear hK K hb
              refine wpAnyN_pure (i := 9) (.tuple #[.agg #[.int .i64 N1, .int .i64 D1], .bool K1]) (by kernel_rfl) rfl (fun w => by simp [execOp, Act.eval, go_sem]) (fun d _ _ _ _ h => by cases d <;> exact h) ⟨⟨_, HX4.out⟩, rfl⟩ ?_
              go_simp
              refine wpAnyN_pure (i := 10) (.agg #[.int .i64 N1, .int .i64 D1]) (by kernel_rfl) rfl (fun w => by simp [execOp, Act.eval, go_sem]) (fun d _ _ _ _ h => by cases d <;> exact h) ⟨⟨_, HX4.out⟩, rfl⟩ ?_
              go_simp
              refine wpAnyN_pure (i := 11) (.bool K1) (by kernel_rfl) rfl (fun w => by simp [execOp, Act.eval, go_sem]) (fun d _ _ _ _ h => by cases d <;> exact h) ⟨⟨_, HX4.out⟩, rfl⟩ ?_
              go_simp
              have z0 := HA4.out.2.at_ 0 _ rfl
              have z1 := HA4.out.2.at_ 1 _ rfl
              have zf0 := HA4.out.2.free 0
              have zf1 := HA4.out.2.free 1
              refine wpAnyN_one (i := 13) (by kernel_rfl) ?_
              refine wpOp_step rfl (fun K hK => ?_)
              rw [if_pos (by rfl)]
              go_simp
              refine hK _ _ ⟨⟨⟨_, (cutW_set HA4.out HG.out).1⟩, rfl⟩, ?_⟩
              clear hK K
              refine wpAnyN_end rfl (by kernel_rfl) rfl ?_
              simp only [List.drop_succ_cons, List.drop_zero]
              go_wp2_with fail
              go_meet
              exact ⟨_, rfl, rfl, Lib.hid (cutW_set HA4.out HG.out)⟩
          · skip
            refine wpOp_step rfl (fun K hK => ?_)
            rw [if_pos (by rfl)]
            go_simp
            have HX1 := Lib.hid (alloc_hb HL.out (.cells #[.int .i64 0, .int .i64 0] 131))
            have HA1 : Hid (CutW W5 (W3.alloc (.cells #[.int .i64 0, .int .i64 0] 131)) W3.heap.size 0 0) := Lib.hid ⟨HX1.out, (box1 (Below.refl _ _)).2⟩
            have HG := Lib.hid HL.out.size
            refine hK _ _ ⟨⟨⟨_, HX1.out⟩, rfl⟩, ?_⟩
            clear hK K
            obtain ⟨x1, hx1⟩ : ∃ X, X = W3.alloc (.cells #[.int .i64 0, .int .i64 0] 131) := ⟨_, rfl⟩
            rw [← hx1]
            rw [← hx1] at HX1 HA1
            clear hx1
            refine wpAnyN_one (i := 6) (by kernel_rfl) ?_
            refine wpOp_step rfl (fun K hK => ?_)
            rw [if_pos (by rfl)]
            go_simp
            refine (neg_impl _ _ _ (by omega) (by omega)).mono ?_
            rintro e x2 ⟨rfl, hb⟩
            have HX2 := Lib.hid (bthen HX1.out hb HX1.out.size)
            have HA2 := Lib.hid (cutW_call HA1.out hb)
            skip
            refine hK _ _ ⟨⟨⟨_, HX2.out⟩, rfl⟩, ?_⟩
            clear hK K hb
            refine wpAnyN_one (i := 7) (by kernel_rfl) ?_
            refine wpOp_step rfl (fun K hK => ?_)
            rw [if_pos (by rfl)]
            go_simp
            refine (HPL.out _).mono ?_
            rintro e x3 ⟨rfl, hb⟩
            have HX3 := Lib.hid (bthen HX2.out hb HX2.out.size)
            have HA3 := Lib.hid (cutW_call HA2.out hb)
            skip
            refine hK _ _ ⟨⟨⟨_, HX3.out⟩, rfl⟩, ?_⟩
            clear hK K hb
            refine wpAnyN_one (i := 8) (by kernel_rfl) ?_
            refine wpOp_step rfl (fun K hK => ?_)
            rw [if_pos (by rfl)]
            go_simp
            refine (HIC.out _ (HC5.out.next HX3.out)).mono ?_
            rintro e x4 ⟨rfl, hb⟩
            have HX4 := Lib.hid (bthen HX3.out hb HX3.out.size)
            have HA4 := Lib.hid (cutW_call HA3.out hb)
            skip
            refine hK _ _ ⟨⟨⟨_, HX4.out⟩, rfl⟩, ?_⟩
            clear hK K hb
            refine wpAnyN_pure (i := 9) (.tuple #[.agg #[.int .i64 N1, .int .i64 D1], .bool K1]) (by kernel_rfl) rfl (fun w => by simp [execOp, Act.eval, go_sem]) (fun d _ _ _ _ h => by cases d <;> exact h) ⟨⟨_, HX4.out⟩, rfl⟩ ?_
            go_simp
            refine wpAnyN_pure (i := 10) (.agg #[.int .i64 N1, .int .i64 D1]) (by kernel_rfl) rfl (fun w => by simp [execOp, Act.eval, go_sem]) (fun d _ _ _ _ h => by cases d <;> exact h) ⟨⟨_, HX4.out⟩, rfl⟩ ?_
            go_simp
            refine wpAnyN_pure (i := 11) (.bool K1) (by kernel_rfl) rfl (fun w => by simp [execOp, Act.eval, go_sem]) (fun d _ _ _ _ h => by cases d <;> exact h) ⟨⟨_, HX4.out⟩, rfl⟩ ?_
            go_simp
            have z0 := HA4.out.2.at_ 0 _ rfl
            have z1 := HA4.out.2.at_ 1 _ rfl
            have zf0 := HA4.out.2.free 0
            have zf1 := HA4.out.2.free 1
            refine wpAnyN_one (i := 13) (by kernel_rfl) ?_
            refine wpOp_step rfl (fun K hK => ?_)
            rw [if_pos (by rfl)]
            go_simp
            refine hK _ _ ⟨⟨⟨_, (cutW_set HA4.out HG.out).1⟩, rfl⟩, ?_⟩
            clear hK K
            refine wpAnyN_end rfl (by kernel_rfl) rfl ?_
            simp only [List.drop_succ_cons, List.drop_zero]
            go_wp2_with fail
            go_meet
            exact ⟨_, rfl, rfl, Lib.hid (cutW_set HA4.out HG.out)⟩
        case rest =>
          obtain ⟨g3, rfl, rfl, hW2⟩ := hcut
          obtain ⟨W6, rfl⟩ : ∃ W6 : World, W6 = wc := ⟨_, rfl⟩
          have HB6 := Lib.hid (bthen HB5.out hW2.out.1 HB5.out.size)
          have HZ6 := Lib.hid (HZ5.out.next hW2.out.1)
          replace c0 := cell_next hW2.out.1 c0
          clear c2 a0 a1 b0 b1
          rcases hoo : o' with _ | r'
          · subst hoo
            obtain rfl : K1 = false := HOO.out.2.2.symm
            have HO2 : Hid (o = none) := HO
            have z0 := HZ6.out.at_ 0 _ rfl
            have z1 := HZ6.out.at_ 1 _ rfl
            have zf0 := HZ6.out.free 0
            have zf1 := HZ6.out.free 1
            go_wp2_with fail
            refine bodyPost_ret (v := .tuple #[.agg #[.int .i64 0, .int .i64 0], .bool false]) (by simp [results, Try.results123, go_sem, z0, z1]) rfl (aft_none HO2.out ?_)
            repeat (first | exact HB6.out | refine Below.setCell ?_ (by simp; try omega) _)
          · subst hoo
            obtain rfl : K1 = true := HOO.out.2.2.symm
            obtain rfl : N1 = r'.num := HOO.out.1.symm
            obtain rfl : D1 = (r'.den : Int) := HOO.out.2.1.symm
            have HO2 : Hid (o = some (r' + (x : Rat))) := HO
            obtain ⟨s, hs⟩ : ∃ s, r' + (x : Rat) = s := ⟨_, rfl⟩
            rw [hs] at HO2
            have hrb := HRB.out r' rfl
            have hb0 : 0 ≤ r'.num := Rat.num_nonneg.2 hrb.1.1
            have hb1 : r'.num ≤ 20000 * (r'.den : Int) := by
              refine Int.le_trans ((le_num _ _).1 hrb.1.2) (Int.mul_le_mul_of_nonneg_right ?_ (by omega))
              have := (thk_bd HGT.out).2
              omega
            have hbx := mulY_bd (a := x) (b := r'.den) (m := 5000) (n := 83521000000000) (by omega) (by omega) (by omega) (by omega)
            have hdp := den_pos r'
            have HPL2 := Lib.hid (fun W => plus_impl r'.num x r'.den 1 s (by rw [← hs, up_eq]; rfl) W (by omega) (by omega) (by omega) (by omega) hdp (by omega) (by omega))
            have s0 := hW2.out.2.at_ 0 _ rfl
            have s1 := hW2.out.2.at_ 1 _ rfl
            clear hs hrb hb0 hb1 hbx hdp HPL
            go_wp2_with fail
            have lc0 := lcell c0
            have lc1 := lcell s0
            have lc2 := lcell s1
            refine region_perm (W := W6) 8 [0, 1, 2, 3, 4, 5, 6] [7] (by kernel_rfl) (by kernel_rfl) (Below.refl _ _) (fun d _ _ _ _ h => by cases d <;> exact h) ?_
            simp only [picks, List.getElem?_cons_succ, List.getElem?_cons_zero, List.drop_succ_cons, List.drop_zero]
            repeat (go_big_quiet_step (fail))
            refine wpQuiet_nil ?_
            intro W3 hW1
            have HL : Hid (Below W6.heap.size W6 W3) := by obtain ⟨x, rfl⟩ := hW1; exact Lib.hid x.below
            clear hW1 lc0 lc1 lc2 c0 s0 s1
            simp only [wpMem]
            refine wpOp_step rfl (fun K hK => ?_)
            rw [if_pos (by rfl)]
            go_simp
            refine (HPL2.out _).mono ?_
            rintro e w7 ⟨rfl, hb⟩
            have HX := Lib.hid (bthen HL.out hb HL.out.size)
            refine hK _ _ ⟨⟨⟨_, HX.out⟩, rfl⟩, ?_⟩
            clear hK K hb
            have HB7 := Lib.hid (bthen HB6.out HX.out HB6.out.size)
            have HZ7 := Lib.hid (HZ6.out.next HX.out)
            have z0 := HZ7.out.at_ 0 _ rfl
            have z1 := HZ7.out.at_ 1 _ rfl
            have zf0 := HZ7.out.free 0
            have zf1 := HZ7.out.free 1
            go_wp2_with fail
            refine bodyPost_ret (v := .tuple #[.agg #[.int .i64 s.num, .int .i64 s.den], .bool true]) (by simp [results, Try.results123, go_sem, z0, z1]) rfl (aft_some HO2.out ?_)
            repeat (first | exact HB7.out | refine Below.setCell ?_ (by simp; try omega) _)
end Go.Proofs.Ytdmnkmdlochogab
