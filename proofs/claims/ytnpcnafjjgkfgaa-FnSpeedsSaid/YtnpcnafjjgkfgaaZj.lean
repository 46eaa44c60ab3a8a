/-
  Rows of layers: contracts of slices.Clone over layers, slices.CompactFunc with the function of impl.ThinCast over this translation. Conditions: stated at each theorem.
-/
import Derived.Test.YtnpcnafjjgkfgaaZp
import Derived.Test.YtnpcnafjjgkfgaaTc
import Derived.Test.YtnpcnafjjgkfgaaMid
import Derived.Test.YtnpcnafjjgkfgaaRed
import Derived.Lib.SliceRun
import Derived.Lib.LazyBuf
namespace Go.Proofs.Ytnpcnafjjgkfgaa
open Go.RowKit
set_option linter.unusedVariables false

theorem add_noneJ (b o i : Nat) : (⟨b, o, none⟩ : Addr).add i = ⟨b, o + i, none⟩ := by
  unfold Addr.add
  split
  · rename_i h; simp
  · rfl
theorem cells2_oneJ (l : List (Int × Int)) : ∀ u ∈ cells2 l, u.oneCell' = true := by
  intro u hu
  simp only [cells2, List.mem_flatMap, List.mem_cons, List.not_mem_nil, or_false] at hu
  obtain ⟨p, _, rfl | rfl⟩ := hu <;> rfl
theorem cells2_catJ (a b : List (Int × Int)) : cells2 (a ++ b) = cells2 a ++ cells2 b := by simp [cells2]
theorem spots_part {w : World} {B n : Nat} {A : Option Addr} {l : List (Int × Int)} (h : Spots w B A n l) (h0 : 0 < n) : ∃ b o : Nat, A = some ⟨b, o, none⟩ ∧ ∀ j u, (cells2 l)[j]? = some u → w.cell? ((⟨b, o, none⟩ : Addr).add j) = some u := by
  obtain ⟨b, o, _, _, hA, _⟩ := h.2 0 h0
  refine ⟨b, o, hA, fun j u hu => ?_⟩
  have hj := (List.getElem?_eq_some_iff.1 hu).1
  rw [cells2_len, h.1] at hj
  obtain ⟨b', o', x, y, hA', _, hv, c0, c1⟩ := h.2 (j / 2) (by omega)
  obtain ⟨rfl, rfl⟩ : b = b' ∧ o = o' := by rw [hA] at hA'; injection hA' with h; injection h with h h'; exact ⟨h, h'⟩
  have he := cells2_at l (j / 2) x y hv
  rw [add_noneJ]
  rcases Nat.mod_two_eq_zero_or_one j with hm | hm
  · rw [show j / 2 * 2 = j by omega, hu] at he
    rw [show o + j / 2 * 2 = o + j by omega] at c0
    rw [c0]; exact he.1.symm
  · rw [show j / 2 * 2 + 1 = j by omega, hu] at he
    rw [show o + j / 2 * 2 + 1 = o + j by omega] at c1
    rw [c1]; exact he.2.symm
theorem infoLayer2 : (Try.prog.info? 84).map (fun i => (i.zero, i.size, i.bytes)) = some (some (.agg #[.int .i64 0, .int .i64 0]), 2, 16) := by kernel_rfl
def CloneK (l : List (Int × Int)) (w : World) (e : Ending) (w' : World) : Prop :=
  ∃ g c, e = .returned (.slice (some ⟨g, 0, none⟩) l.length c) ∧ w'.ownsRow w.heap.size 84 2 (.slice (some ⟨g, 0, none⟩) l.length c) l.length (cells2 l) ∧ Below w.heap.size w w'
theorem own_some {W : World} {B n : Nat} {T : TypeId} {z : Nat} {v : Value} {xs : List Value} (h : W.ownsRow B T z v n xs) (h0 : 0 < n) : ∃ g c, v = .slice (some ⟨g, 0, none⟩) n c := by
  rcases h.2 with ⟨_, h1⟩ | ⟨g, cap, cur, hv, _⟩
  · omega
  · exact ⟨g, cap, hv⟩
set_option maxHeartbeats 1600000 in
theorem clone_any (A : Option Addr) (n c : Nat) (l : List (Int × Int)) (w : World) (hs : Spots w w.heap.size A n l) (h0 : 0 < n) (hm : n ≤ 1000) :
    Calls Try.prog 67 #[.slice A n c] w (CloneK l w) := by
  obtain ⟨i0, hi, hz0, hz1, hz2⟩ := info_parts infoLayer2
  have HI := Lib.hid (And.intro hi (And.intro hz0 (And.intro hz1 hz2)))
  clear hi hz0 hz1 hz2
  have hbox : Below w.heap.size w (w.alloc (.cells #[] 84)) := (Below.refl _ w).alloc (Nat.le_refl _) _
  obtain ⟨b, o, rfl, hcs⟩ := spots_part (spots_at hs hbox) h0
  obtain rfl := hs.1
  have HA := Lib.hid hcs
  have HC := Lib.hid (col_start (w := w) 84 2 (Below.refl _ w))
  clear hs hcs hbox
  have heq := Lib.run_eql_slice_nil (P := Try.prog) w 26 84 (some ⟨b, o, none⟩) l.length c 0 0 Try.underlying26
  go_enter Try.func67, Try.ntmps67
  go_wp2_with (at_builtin; go_loud (refine wpList_append_own _ rfl _ _ 26 rfl w.heap.size 84 i0 (.agg #[.int .i64 0, .int .i64 0]) 2 16 Try.underlying26 HI.out.1 HI.out.2.1 HI.out.2.2.1 HI.out.2.2.2 rfl (by decide) _ _ _ rfl HC.out.1 ⟨b, o, none⟩ l.length c (cells2 l) rfl (cells2_len l) HA.out (cells2_oneJ l) (by unfold maxLen; omega) (by omega) (by simp) ?_; intro v' w5 hown' hgrow _; have HN := Lib.hid (And.intro hown' (HC.out.2.grown hgrow (by simp) (fun j hj => (HC.out.1.lt j hj).1))); clear hown' hgrow))
  have hn3 := HN.out
  rw [Nat.zero_add, List.nil_append] at hn3
  obtain ⟨g, cc, rfl⟩ := own_some hn3.1 h0
  have HP : Hid (CloneK l w (.returned (.slice (some ⟨g, 0, none⟩) l.length cc)) w5) := Lib.hid ⟨g, cc, rfl, hn3.1, hn3.2⟩
  clear hn3
  go_ret
  exact HP.out
/-! ### Writing into an own row -/
theorem own2_setK {w : World} {lo hi n g k : Nat} {l : List (Int × Int)} {a b : Int} (h : Own2 w lo hi (some ⟨g, 0, none⟩) n l) (hk : k < n) : Own2 ((w.setCell ⟨g, k * 2, none⟩ (.int .i64 a)).setCell ⟨g, k * 2 + 1, none⟩ (.int .i64 b)) lo hi (some ⟨g, 0, none⟩) n (l.set k (a, b)) := by
  refine ⟨by rw [List.length_set]; exact h.1, fun j hj => ?_⟩
  obtain ⟨g', x, y, hA, h1, h2, hl, c0, c1, f0, f1⟩ := h.2 j hj
  obtain rfl : g = g' := by injection hA with h; injection h
  have F : ∀ j, w.frozen? ⟨g, j, none⟩ = false → ((w.setCell ⟨g, k * 2, none⟩ (.int .i64 a)).setCell ⟨g, k * 2 + 1, none⟩ (.int .i64 b)).frozen? ⟨g, j, none⟩ = false := fun j hj => (World.frozen?_setCell _ _ _ _).trans ((World.frozen?_setCell _ _ _ _).trans hj)
  by_cases e : j = k
  · subst e
    exact ⟨g, a, b, rfl, h1, h2, by simp [show j < l.length by rw [h.1]; exact hk], (World.cell?_setCell_other _ _ _ _ (by simp)).trans (World.cell?_setCell_same _ _ _ c0), World.cell?_setCell_same _ _ _ ((World.cell?_setCell_other _ _ _ _ (by simp)).trans c1), F _ f0, F _ f1⟩
  · exact ⟨g, x, y, rfl, h1, h2, by rw [List.getElem?_set_ne (fun h => e h.symm)]; exact hl, (World.cell?_setCell_other _ _ _ _ (by simp; try omega)).trans ((World.cell?_setCell_other _ _ _ _ (by simp; try omega)).trans c0), (World.cell?_setCell_other _ _ _ _ (by simp; try omega)).trans ((World.cell?_setCell_other _ _ _ _ (by simp; try omega)).trans c1), F _ f0, F _ f1⟩
theorem run_clear2 {P : Program} (w : World) (t e ty : TypeId) (z : Value) (ht : P.underlying t = some (.slice e)) (hv : ∀ w, (zeroValue e).run P w = .ok z w) (hz : z.cells = #[.int .i64 0, .int .i64 0]) (b o n c : Nat) (hn : 0 < n)
    (hc : ∀ j, j < n * 2 → (w.cell? ⟨b, o + j, none⟩).isSome = true) (hf : ∀ j, j < n * 2 → w.frozen? ⟨b, o + j, none⟩ = false) :
    (Builtin.clear_ #[t] ty #[.slice (some ⟨b, o, none⟩) n c]).run P w = .ok (.tuple #[]) (w.setCells b o (List.replicate (n * 2) (.int .i64 0))) := by
  have hzc : (Builtin.zeroCells z.cells n).toList = List.replicate (n * 2) (.int .i64 0) := by
    rw [hz]
    simp [Builtin.zeroCells]
    apply List.ext_getElem
    · simp
    · intro i h1 h2
      rcases Nat.mod_two_eq_zero_or_one i with h | h <;> simp [h]
  have hst := run_storeCells_cells (P := P) b o (List.replicate (n * 2) (.int .i64 0)) 0 w (by simpa using hc) (by simpa using hf) (by intro v hv'; rw [List.eq_of_mem_replicate hv']; rfl)
  simp only [Nat.add_zero] at hst
  obtain ⟨m, rfl⟩ : ∃ m, n = m + 1 := ⟨n - 1, by omega⟩
  simp [Builtin.clear_, run_underlying ht, hv, hzc, hst]
theorem own2_clear {w : World} {lo hi n g k m : Nat} {l : List (Int × Int)} (h : Own2 w lo hi (some ⟨g, 0, none⟩) n l) (hk : k ≤ n) (vs : List Value) : Own2 (w.setCells g (k * 2) vs) lo hi (some ⟨g, 0, none⟩) k (l.take k) :=
  ⟨by rw [List.length_take, h.1]; omega, fun j hj => by
    obtain ⟨g', x, y, hA, h1, h2, hl, c0, c1, f0, f1⟩ := h.2 j (by omega)
    obtain rfl : g = g' := by injection hA with h; injection h
    exact ⟨g, x, y, rfl, h1, h2, by rw [List.getElem?_take, if_pos hj]; exact hl, (World.cell?_setCells_out _ _ _ _ _ (fun _ _ => .inl (by simp only; omega))).trans c0, (World.cell?_setCells_out _ _ _ _ _ (fun _ _ => .inl (by simp only; omega))).trans c1, (World.frozen?_setCells _ _ _ _ _).trans f0, (World.frozen?_setCells _ _ _ _ _).trans f1⟩⟩
theorem size_setCellsJ (b : Nat) : ∀ (vs : List Value) (o : Nat) (w : World), (w.setCells b o vs).heap.size = w.heap.size
  | [], _, _ => rfl
  | v :: vs, o, w => by unfold World.setCells; rw [size_setCellsJ]; simp [World.setCell]
/-! ### slices.CompactFunc -/
theorem eqS_any (x y x' y' : Int) (v : Bool) (hv : (y == y') = v) (w : World) :
    Calls Try.prog 68 #[.agg #[.int .i64 x, .int .i64 y], .agg #[.int .i64 x', .int .i64 y']] w fun e w' => e = .returned (.bool v) ∧ Below w.heap.size w w' := by
  subst hv
  go_enter Try.func68, Try.ntmps68
  go_wp2_with fail
  go_ret
  exact ⟨rfl, ((Below.refl _ _).alloc (Nat.le_refl _) _).alloc (by simp) _⟩
theorem thinK_all {l : List (Int × Int)} {k : Nat} (hk : k ≤ l.length) (h : ∀ j, 0 < j → j < k → kept l j = true) : thinK l k = l.take k := by
  induction k with
  | zero => simp [thinK]
  | succ k ih =>
    have e : kept l k = true := by
      rcases Nat.eq_zero_or_pos k with rfl | hp
      · rfl
      · exact h k hp (by omega)
    rw [thinK, e, if_pos rfl, ih (by omega) (fun j a b => h j a (by omega)), List.take_succ_eq_append_getElem (by omega)]
    have := lay_at (l := l) (k := k) (by omega)
    rw [List.getElem?_eq_getElem (by omega)] at this
    rw [Option.some.inj this]
/-- The row in the midst of it: the first q places hold what the first p layers, thinned, are; from q on it is as it was. -/
structure Midst (l cur : List (Int × Int)) (q p : Nat) : Prop where
  done : cur.take q = thinK l p
  len : (thinK l p).length = q
  rest : ∀ j, q ≤ j → cur[j]? = l[j]?
theorem Midst.skip {l cur : List (Int × Int)} {q p : Nat} (h : Midst l cur q p) (hk : kept l p = false) : Midst l cur q (p + 1) :=
  ⟨by rw [thinK, hk]; exact h.done, by rw [thinK, hk]; exact h.len, h.rest⟩
theorem Midst.keep {l cur : List (Int × Int)} {q p : Nat} {x y : Int} (h : Midst l cur q p) (hk : kept l p = true) (hp : l[p]? = some (x, y)) (hq : q < cur.length) : Midst l (cur.set q (x, y)) (q + 1) (p + 1) := by
  have e : thinK l (p + 1) = thinK l p ++ [(x, y)] := by rw [thinK, hk, if_pos rfl, depAt_at hp, spdAt_at hp]
  refine ⟨?_, by rw [e, List.length_append, h.len]; rfl, fun j hj => ?_⟩
  · rw [e, ← h.done, List.take_succ_eq_append_getElem (by rw [List.length_set]; exact hq)]
    have e2 : (cur.set q (x, y)).take q = cur.take q := by
      apply List.ext_getElem?
      intro i
      rw [List.getElem?_take, List.getElem?_take]
      split
      · rw [List.getElem?_set_ne (by omega)]
      · rfl
    rw [e2]; simp
  · rw [List.getElem?_set_ne (by omega)]; exact h.rest j (by omega)
def CompK (l : List (Int × Int)) (lo : Nat) (w : World) (e : Ending) (w' : World) : Prop :=
  ∃ g c, e = .returned (.slice (some ⟨g, 0, none⟩) (thin l).length c) ∧ Own2 w' lo w'.heap.size (some ⟨g, 0, none⟩) (thin l).length (thin l) ∧ Below lo w w' ∧ (thin l).length ≤ c ∧ c ≤ maxLen
theorem kept_at {l : List (Int × Int)} {k : Nat} {x y x' y' : Int} (h : l[k + 1]? = some (x, y)) (h' : l[k]? = some (x', y')) : kept l (k + 1) = !(y == y') := by
  rw [kept_succ, spdAt_at h, spdAt_at h']
  by_cases e : y = y'
  · subst e; simp
  · rw [beq_eq_false_iff_ne.2 e, bne_iff_ne.2 (fun q => e q.symm)]; rfl
set_option maxRecDepth 20000 in
set_option maxHeartbeats 3200000 in
theorem compact_any (g c lo : Nat) (l : List (Int × Int)) (w : World) (h : Own2 w lo w.heap.size (some ⟨g, 0, none⟩) l.length l) (hl : Lays l) (hc : l.length ≤ c) (hcm : c ≤ maxLen) (hlo : lo ≤ w.heap.size) :
    Calls Try.prog 66 #[.slice (some ⟨g, 0, none⟩) l.length c, .func (.func 68) #[] #[]] w (CompK l lo w) := by
  have HO := Lib.hid h
  have h1 := hl.one
  have h8 := hl.max
  have hg : lo ≤ g ∧ g < w.heap.size := by
    obtain ⟨g', x, y, hA, a, b, _⟩ := h.2 0 (by omega)
    obtain rfl : g = g' := by injection hA with h; injection h
    exact ⟨a, b⟩
  obtain ⟨hg1, hg2⟩ := hg
  clear h
  unfold maxLen at hcm
  by_cases h2 : l.length < 2
  · have e : thin l = l := by rw [thin, thinK_all (Nat.le_refl _) (fun j a b => by omega), List.take_length]
    have HP : Hid (CompK l lo w (.returned (.slice (some ⟨g, 0, none⟩) l.length c)) w) := by
      unfold Hid CompK
      rw [e]
      exact ⟨g, c, rfl, HO.out, Below.refl _ _, hc, by unfold maxLen; omega⟩
    go_enter Try.func66, Try.ntmps66
    go_wp2_with fail
    go_ret
    exact HP.out
  go_enter Try.func66, Try.ntmps66
  go_wp2_with fail
  go_loopw [5] (fun i wr => ∃ k : Nat, k + 1 ≤ l.length ∧ i = .int .i64 ((k + 1 : Nat) : Int) ∧ Hid (∀ j, 0 < j → j < k + 1 → kept l j = true) ∧ Hid (Below w.heap.size w wr)) (fun i _ => l.length - (intOf i).toNat)
  case atStart => exact ⟨0, by omega, rfl, Lib.hid (fun j a b => by omega), Lib.hid (Below.refl _ _)⟩
  case round =>
    obtain ⟨k, hk, rfl, hA, hB⟩ := hrel
    have HOr := Lib.hid (HO.out.on hB.out (Nat.le_refl _))
    by_cases hlt : k + 1 < l.length
    · obtain ⟨g1, x, y, hA1, _, _, hl1, c0, c1, _⟩ := HOr.out.2 (k + 1) hlt
      obtain rfl : g = g1 := by injection hA1 with h; injection h
      obtain ⟨g2, x', y', hA2, _, _, hl2, d0, d1, _⟩ := HOr.out.2 k (by omega)
      obtain rfl : g = g2 := by injection hA2 with h; injection h
      have HKP := Lib.hid (kept_at hl1 hl2)
      clear hA1 hA2 hl1 hl2
      obtain ⟨W0, rfl⟩ : ∃ W : World, W = wr := ⟨_, rfl⟩
      by_cases hy : y = y'
      · have hv : (y == y') = true := beq_iff_eq.2 hy
        have HV := Lib.hid hv
        have hck : ¬ c = k + 1 := by omega
        have HM0 : Hid (Midst l l (k + 1) (k + 1 + 1)) := by
          have e := thinK_all (l := l) (k := k + 1) (by omega) hA.out
          have e2 : kept l (k + 1) = false := by rw [HKP.out, hv]; rfl
          refine ⟨by rw [thinK, e2]; exact e.symm, by rw [thinK, e2]; simp only [Bool.false_eq_true, if_false]; rw [e, List.length_take]; omega, fun j _ => rfl⟩
        clear hy hv
        go_wp2_with fail
        have lc0 := lcell (c0)
        have lc1 := lcell (c1)
        have lc2 := lcell (d0)
        have lc3 := lcell (d1)
        refine region_later (W := W0) (by kernel_rfl) (by kernel_rfl) (Below.refl _ _) ?_
        repeat (go_big_quiet_step (((go_at_call 68; go_loud (exact later_call (eqS_any _ _ _ _ _ HV.out _))))))
        refine wpQuiet_nil ?_
        intro W1 hW1
        have HL : Hid (Below W0.heap.size W0 W1) := by obtain ⟨x, rfl⟩ := hW1; exact Lib.hid x.below
        clear hW1 lc0 lc1 lc2 lc3
        have HB1 := Lib.hid ((hB.out.mono hlo).trans (HL.out.mono (Nat.le_trans hlo hB.out.size)))
        have HO1 := Lib.hid (HOr.out.on HL.out hB.out.size)
        have hz1 : w.heap.size ≤ W1.heap.size := Nat.le_trans hB.out.size HL.out.size
        clear c0 c1 d0 d1
        go_wp2_with fail
        obtain ⟨D, hD⟩ : ∃ D, l.length - (k + 1) = D := ⟨_, rfl⟩
        have hD1 : l.length = k + 1 + D := by omega
        rw [hD]
        go_loopw [5, 7] (fun u v wq => ∃ (q m : Nat) (cur : List (Int × Int)), k + 1 ≤ q ∧ q + 1 ≤ k + 1 + (m + 1) ∧ m + 1 ≤ D ∧ u = .int .i64 q ∧ v = .int .i64 ((m + 1 : Nat) : Int) ∧ Hid (Own2 wq lo w.heap.size (some ⟨g, 0, none⟩) l.length cur) ∧ Hid (Midst l cur q (k + 1 + (m + 1))) ∧ Hid (Below lo w wq) ∧ Hid (w.heap.size ≤ wq.heap.size)) (fun _ v _ => D - (intOf v).toNat)
        case atStart => exact ⟨k + 1, 0, l, Nat.le_refl _, by omega, by omega, rfl, rfl, HO1, HM0, HB1, Lib.hid hz1⟩
        case round =>
          obtain ⟨q, m, cur, hq1, hq2, hmD, rfl, rfl, hO, hM, hB, hZ⟩ := hrel
          obtain ⟨W3, rfl⟩ : ∃ W : World, W = wr := ⟨_, rfl⟩
          by_cases hlt2 : m + 1 < D
          · obtain ⟨g3, x3, y3, hA3, _, _, hl3, e0, e1, _⟩ := hO.out.2 (k + 1 + (m + 1)) (by omega)
            obtain rfl : g = g3 := by injection hA3 with h; injection h
            obtain ⟨g4, x4, y4, hA4, _, _, hl4, d0, d1, _⟩ := hO.out.2 (k + 1 + m) (by omega)
            obtain rfl : g = g4 := by injection hA4 with h; injection h
            obtain ⟨g5, x5, y5, hA5, _, _, _, p0, p1, pf0, pf1⟩ := hO.out.2 q (by omega)
            obtain rfl : g = g5 := by injection hA5 with h; injection h
            rw [hM.out.rest _ (by omega)] at hl3 hl4
            have HKP := Lib.hid (kept_at (k := k + 1 + m) hl3 hl4)
            have HL3 := Lib.hid hl3
            have hcl : cur.length = l.length := hO.out.1
            rw [show (k + 1 + (m + 1)) * 2 = (k + 1) * 2 + (m + 1) * 2 by omega] at e0 e1
            rw [show (k + 1 + m) * 2 = (k + 1) * 2 + m * 2 by omega] at d0 d1
            clear hA3 hA4 hA5 hl3 hl4
            by_cases hy : y3 = y4
            · have hv : (y3 == y4) = true := beq_iff_eq.2 hy
              have HV := Lib.hid hv
              have HM2 : Hid (Midst l cur q (k + 1 + (m + 1) + 1)) := Lib.hid (hM.out.skip (by rw [show k + 1 + (m + 1) = k + 1 + m + 1 by omega, HKP.out, hv]; rfl))
              clear hy hv
              go_wp2_with fail
              have lc0 := lcell (e0)
              have lc1 := lcell (e1)
              have lc2 := lcell (d0)
              have lc3 := lcell (d1)
              refine region_later (W := W3) (by kernel_rfl) (by kernel_rfl) (Below.refl _ _) ?_
              repeat (go_big_quiet_step (((go_at_call 68; go_loud (exact later_call (eqS_any _ _ _ _ _ HV.out _))))))
              refine wpQuiet_nil ?_
              intro W4 hW1
              have HL : Hid (Below W3.heap.size W3 W4) := by obtain ⟨x, rfl⟩ := hW1; exact Lib.hid x.below
              clear hW1 lc0 lc1 lc2 lc3
              have HB4 := Lib.hid (hB.out.trans (HL.out.mono (Nat.le_trans hlo hZ.out)))
              have HO4 := Lib.hid (hO.out.on HL.out hZ.out)
              have hz4 := Lib.hid (Nat.le_trans hZ.out HL.out.size)
              clear e0 e1 d0 d1 p0 p1 pf0 pf1
              go_wp2_with fail
              go_roundw
              case rel => exact ⟨q, m + 1, cur, by omega, by omega, by omega, rfl, by go_num, HO4, HM2, HB4, hz4⟩
              case measure => simp [intOf]; omega
            · have hv : (y3 == y4) = false := beq_eq_false_iff_ne.2 hy
              have HV := Lib.hid hv
              have HM2 : Hid (Midst l (cur.set q (x3, y3)) (q + 1) (k + 1 + (m + 1) + 1)) := Lib.hid (hM.out.keep (by rw [show k + 1 + (m + 1) = k + 1 + m + 1 by omega, HKP.out, hv]; rfl) (by rw [show k + 1 + (m + 1) = k + 1 + m + 1 by omega]; exact HL3.out) (by omega))
              clear hy hv
              go_wp2_with fail
              have lc0 := lcell (e0)
              have lc1 := lcell (e1)
              have lc2 := lcell (d0)
              have lc3 := lcell (d1)
              refine region_later (W := W3) (by kernel_rfl) (by kernel_rfl) (Below.refl _ _) ?_
              repeat (go_big_quiet_step (((go_at_call 68; go_loud (exact later_call (eqS_any _ _ _ _ _ HV.out _))))))
              refine wpQuiet_nil ?_
              intro W4 hW1
              have HL : Hid (Below W3.heap.size W3 W4) := by obtain ⟨x, rfl⟩ := hW1; exact Lib.hid x.below
              clear hW1 lc0 lc1 lc2 lc3
              have HB4 := Lib.hid (((hB.out.trans (HL.out.mono (Nat.le_trans hlo hZ.out))).setCell (p := ⟨g, q * 2, none⟩) hg1 (.int .i64 x3)).setCell (p := ⟨g, q * 2 + 1, none⟩) hg1 (.int .i64 y3))
              have HO4 := Lib.hid (own2_setK (a := x3) (b := y3) (hO.out.on HL.out hZ.out) (k := q) (by omega))
              have hz4 : Hid (w.heap.size ≤ ((W4.setCell ⟨g, q * 2, none⟩ (.int .i64 x3)).setCell ⟨g, q * 2 + 1, none⟩ (.int .i64 y3)).heap.size) := Lib.hid (by have := Nat.le_trans hZ.out HL.out.size; simpa [World.setCell] using this)
              have hlg : g < W3.heap.size := Nat.lt_of_lt_of_le hg2 hZ.out
              replace e0 := cell_next HL.out e0
              replace e1 := cell_next HL.out e1
              replace p0 := cell_next HL.out p0
              replace p1 := cell_next HL.out p1
              replace pf0 := (HL.out.frozen (p := ⟨g, q * 2, none⟩) hlg).trans pf0
              replace pf1 := (HL.out.frozen (p := ⟨g, q * 2 + 1, none⟩) hlg).trans pf1
              clear d0 d1
              go_wp2_with fail
              go_roundw
              case rel => exact ⟨q + 1, m + 1, _, by omega, by omega, by omega, by go_num, by go_num, HO4, HM2, HB4, hz4⟩
              case measure => simp [intOf]; omega
          · have hend : k + 1 + (m + 1) = l.length := by omega
            have hth : thinK l (k + 1 + (m + 1)) = thin l := by rw [hend]; rfl
            have hlen : (thin l).length = q := by rw [← hth]; exact hM.out.len
            have hcq : ¬ c = q := by omega
            have hcl := fun ty => run_clear2 (P := Try.prog) W3 26 84 ty _ Try.underlying26 Try.zeroValue84 rfl g (q * 2) (k + 1 + D - q) (c - q) (by omega) (fun j hj => by
              obtain ⟨g6, x6, y6, hA6, _, _, _, r0, r1, _⟩ := hO.out.2 (q + j / 2) (by omega)
              obtain rfl : g = g6 := by injection hA6 with h; injection h
              rcases Nat.mod_two_eq_zero_or_one j with z | z
              · rw [show q * 2 + j = (q + j / 2) * 2 by omega, r0]; rfl
              · rw [show q * 2 + j = (q + j / 2) * 2 + 1 by omega, r1]; rfl) (fun j hj => by
              obtain ⟨g6, x6, y6, hA6, _, _, _, _, _, r0, r1⟩ := hO.out.2 (q + j / 2) (by omega)
              obtain rfl : g = g6 := by injection hA6 with h; injection h
              rcases Nat.mod_two_eq_zero_or_one j with z | z
              · rw [show q * 2 + j = (q + j / 2) * 2 by omega]; exact r0
              · rw [show q * 2 + j = (q + j / 2) * 2 + 1 by omega]; exact r1)
            have HP : Hid (CompK l lo w (.returned (.slice (some ⟨g, 0, none⟩) q c)) (W3.setCells g (q * 2) (List.replicate ((k + 1 + D - q) * 2) (.int .i64 0)))) := by
              have hown := own2_clear (m := 0) hO.out (k := q) (by omega) (List.replicate ((k + 1 + D - q) * 2) (.int .i64 0))
              rw [hM.out.done, hth] at hown
              refine ⟨g, c, by rw [hlen], ?_, below_setCells hg1 _ _ _ hB.out, by omega, by unfold maxLen; omega⟩
              rw [hlen]
              exact hown.wide (Nat.le_refl _) (by rw [size_setCellsJ]; exact hZ.out)
            go_wp2_with fail
            go_ret
            exact HP.out
      · have hv : (y == y') = false := beq_eq_false_iff_ne.2 hy
        have HV := Lib.hid hv
        have HA2 : Hid (∀ j, 0 < j → j < k + 1 + 1 → kept l j = true) := Lib.hid (fun j a b => by
          rcases Nat.lt_or_ge j (k + 1) with q | q
          · exact hA.out j a q
          · obtain rfl : j = k + 1 := by omega
            rw [HKP.out, hv]; rfl)
        clear hy hv
        go_wp2_with fail
        have lc0 := lcell (c0)
        have lc1 := lcell (c1)
        have lc2 := lcell (d0)
        have lc3 := lcell (d1)
        refine region_later (W := W0) (by kernel_rfl) (by kernel_rfl) (Below.refl _ _) ?_
        repeat (go_big_quiet_step (((go_at_call 68; go_loud (exact later_call (eqS_any _ _ _ _ _ HV.out _))))))
        refine wpQuiet_nil ?_
        intro W1 hW1
        have HL : Hid (Below W0.heap.size W0 W1) := by obtain ⟨x, rfl⟩ := hW1; exact Lib.hid x.below
        clear hW1 lc0 lc1 lc2 lc3
        have HB1 := Lib.hid (bthen hB.out HL.out hB.out.size)
        clear c0 c1 d0 d1
        go_wp2_with fail
        go_roundw
        case rel => exact ⟨k + 1, by omega, by go_num, HA2, HB1⟩
        case measure => simp [intOf]; omega
    · have e : thin l = l := by
        rw [thin, thinK_all (Nat.le_refl _) (fun j a b => hA.out j a (by omega)), List.take_length]
      have HP : Hid (CompK l lo w (.returned (.slice (some ⟨g, 0, none⟩) l.length c)) wr) := by
        unfold Hid CompK
        rw [e]
        exact ⟨g, c, rfl, HOr.out.wide (Nat.le_refl _) hB.out.size, hB.out.mono hlo, hc, by unfold maxLen; omega⟩
      go_wp2_with fail
      go_ret
      exact HP.out
end Go.Proofs.Ytnpcnafjjgkfgaa
