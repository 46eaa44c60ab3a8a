/-
  Rows of layers: contracts of slices.Clone over layers, slices.CompactFunc with the function of impl.ThinCast over this translation. Conditions: stated at each theorem.
-/
import Derived.Test.YtdmnkmdlochogabZp
import Derived.Test.YtdmnkmdlochogabTc
import Derived.Test.YtdmnkmdlochogabMid
import Derived.Test.YtdmnkmdlochogabRed
import Derived.Lib.SliceRun
import Derived.Lib.LazyBuf
namespace Go.Proofs.Ytdmnkmdlochogab
open Go.RowKit
set_option linter.unusedVariables false

theorem add_noneJ (b o i : Nat) : (⟨b, o, none⟩ : Addr).add i = ⟨b, o + i, none⟩ := by
  unfold Addr.add
  split
  · rename_i h; simp
  · rfl
theorem cells2_oneJ (l : List (Int × Int)) : ∀ u ∈ cells2 l, u.oneCell' = true := by
  intro u hu
  simp only [cells2, List.mem_flatMap, List.mem_cons, List.not_mem_nil, or_false] at hu
  obtain ⟨p, _, rfl | rfl⟩ := hu <;> rfl
theorem cells2_catJ (a b : List (Int × Int)) : cells2 (a ++ b) = cells2 a ++ cells2 b := by simp [cells2]
theorem spots_part {w : World} {B n : Nat} {A : Option Addr} {l : List (Int × Int)} (h : Spots w B A n l) (h0 : 0 < n) : ∃ b o : Nat, A = some ⟨b, o, none⟩ ∧ ∀ j u, (cells2 l)[j]? = some u → w.cell? ((⟨b, o, none⟩ : Addr).add j) = some u := by
  obtain ⟨b, o, _, _, hA, _⟩ := h.2 0 h0
  refine ⟨b, o, hA, fun j u hu => ?_⟩
  have hj := (List.getElem?_eq_some_iff.1 hu).1
  rw [cells2_len, h.1] at hj
  obtain ⟨b', o', x, y, hA', _, hv, c0, c1⟩ := h.2 (j / 2) (by omega)
  obtain ⟨rfl, rfl⟩ : b = b' ∧ o = o' := by rw [hA] at hA'; injection hA' with h; injection h with h h'; exact ⟨h, h'⟩
  have he := cells2_at l (j / 2) x y hv
  rw [add_noneJ]
  rcases Nat.mod_two_eq_zero_or_one j with hm | hm
  · rw [show j / 2 * 2 = j by omega, hu] at he
    rw [show o + j / 2 * 2 = o + j by omega] at c0
    rw [c0]; exact he.1.symm
  · rw [show j / 2 * 2 + 1 = j by omega, hu] at he
    rw [show o + j / 2 * 2 + 1 = o + j by omega] at c1
    rw [c1]; exact he.2.symm
theorem infoLayer2 : (Try.prog.info? 140).map (fun i => (i.zero, i.size, i.bytes)) = some (some (.agg #[.int .i64 0, .int .i64 0]), 2, 16) := by kernel_rfl
def CloneK (l : List (Int × Int)) (w : World) (e : Ending) (w' : World) : Prop :=
  ∃ g c, e = .returned (.slice (some ⟨g, 0, none⟩) l.length c) ∧ w'.ownsRow w.heap.size 140 2 (.slice (some ⟨g, 0, none⟩) l.length c) l.length (cells2 l) ∧ Below w.heap.size w w'
theorem own_some {W : World} {B n : Nat} {T : TypeId} {z : Nat} {v : Value} {xs : List Value} (h : W.ownsRow B T z v n xs) (h0 : 0 < n) : ∃ g c, v = .slice (some ⟨g, 0, none⟩) n c := by
  rcases h.2 with ⟨_, h1⟩ | ⟨g, cap, cur, hv, _⟩
  · omega
  · exact ⟨g, cap, hv⟩
/-! ### Writing into an own row -/
theorem own2_setK {w : World} {lo hi n g k : Nat} {l : List (Int × Int)} {a b : Int} (h : Own2 w lo hi (some ⟨g, 0, none⟩) n l) (hk : k < n) : Own2 ((w.setCell ⟨g, k * 2, none⟩ (.int .i64 a)).setCell ⟨g, k * 2 + 1, none⟩ (.int .i64 b)) lo hi (some ⟨g, 0, none⟩) n (l.set k (a, b)) := by
  refine ⟨by rw [List.length_set]; exact h.1, fun j hj => ?_⟩
  obtain ⟨g', x, y, hA, h1, h2, hl, c0, c1, f0, f1⟩ := h.2 j hj
  obtain rfl : g = g' := by injection hA with h; injection h
  have F : ∀ j, w.frozen? ⟨g, j, none⟩ = false → ((w.setCell ⟨g, k * 2, none⟩ (.int .i64 a)).setCell ⟨g, k * 2 + 1, none⟩ (.int .i64 b)).frozen? ⟨g, j, none⟩ = false := fun j hj => (World.frozen?_setCell _ _ _ _).trans ((World.frozen?_setCell _ _ _ _).trans hj)
  by_cases e : j = k
  · subst e
    exact ⟨g, a, b, rfl, h1, h2, by simp [show j < l.length by rw [h.1]; exact hk], (World.cell?_setCell_other _ _ _ _ (by simp)).trans (World.cell?_setCell_same _ _ _ c0), World.cell?_setCell_same _ _ _ ((World.cell?_setCell_other _ _ _ _ (by simp)).trans c1), F _ f0, F _ f1⟩
  · exact ⟨g, x, y, rfl, h1, h2, by rw [List.getElem?_set_ne (fun h => e h.symm)]; exact hl, (World.cell?_setCell_other _ _ _ _ (by simp; try omega)).trans ((World.cell?_setCell_other _ _ _ _ (by simp; try omega)).trans c0), (World.cell?_setCell_other _ _ _ _ (by simp; try omega)).trans ((World.cell?_setCell_other _ _ _ _ (by simp; try omega)).trans c1), F _ f0, F _ f1⟩
theorem run_clear2 {P : Program} (w : World) (t e ty : TypeId) (z : Value) (ht : P.underlying t = some (.slice e)) (hv : ∀ w, (zeroValue e).run P w = .ok z w) (hz : z.cells = #[.int .i64 0, .int .i64 0]) (b o n c : Nat) (hn : 0 < n)
    (hc : ∀ j, j < n * 2 → (w.cell? ⟨b, o + j, none⟩).isSome = true) (hf : ∀ j, j < n * 2 → w.frozen? ⟨b, o + j, none⟩ = false) :
    (Builtin.clear_ #[t] ty #[.slice (some ⟨b, o, none⟩) n c]).run P w = .ok (.tuple #[]) (w.setCells b o (List.replicate (n * 2) (.int .i64 0))) := by
  have hzc : (Builtin.zeroCells z.cells n).toList = List.replicate (n * 2) (.int .i64 0) := by
    rw [hz]
    simp [Builtin.zeroCells]
    apply List.ext_getElem
    · simp
    · intro i h1 h2
      rcases Nat.mod_two_eq_zero_or_one i with h | h <;> simp [h]
  have hst := run_storeCells_cells (P := P) b o (List.replicate (n * 2) (.int .i64 0)) 0 w (by simpa using hc) (by simpa using hf) (by intro v hv'; rw [List.eq_of_mem_replicate hv']; rfl)
  simp only [Nat.add_zero] at hst
  obtain ⟨m, rfl⟩ : ∃ m, n = m + 1 := ⟨n - 1, by omega⟩
  simp [Builtin.clear_, run_underlying ht, hv, hzc, hst]
theorem own2_clear {w : World} {lo hi n g k m : Nat} {l : List (Int × Int)} (h : Own2 w lo hi (some ⟨g, 0, none⟩) n l) (hk : k ≤ n) (vs : List Value) : Own2 (w.setCells g (k * 2) vs) lo hi (some ⟨g, 0, none⟩) k (l.take k) :=
  ⟨by rw [List.length_take, h.1]; omega, fun j hj => by
    obtain ⟨g', x, y, hA, h1, h2, hl, c0, c1, f0, f1⟩ := h.2 j (by omega)
    obtain rfl : g = g' := by injection hA with h; injection h
    exact ⟨g, x, y, rfl, h1, h2, by rw [List.getElem?_take, if_pos hj]; exact hl, (World.cell?_setCells_out _ _ _ _ _ (fun _ _ => .inl (by simp only; omega))).trans c0, (World.cell?_setCells_out _ _ _ _ _ (fun _ _ => .inl (by simp only; omega))).trans c1, (World.frozen?_setCells _ _ _ _ _).trans f0, (World.frozen?_setCells _ _ _ _ _).trans f1⟩⟩
theorem size_setCellsJ (b : Nat) : ∀ (vs : List Value) (o : Nat) (w : World), (w.setCells b o vs).heap.size = w.heap.size
  | [], _, _ => rfl
  | v :: vs, o, w => by unfold World.setCells; rw [size_setCellsJ]; simp [World.setCell]
theorem thinK_all {l : List (Int × Int)} {k : Nat} (hk : k ≤ l.length) (h : ∀ j, 0 < j → j < k → kept l j = true) : thinK l k = l.take k := by
  induction k with
  | zero => simp [thinK]
  | succ k ih =>
    have e : kept l k = true := by
      rcases Nat.eq_zero_or_pos k with rfl | hp
      · rfl
      · exact h k hp (by omega)
    rw [thinK, e, if_pos rfl, ih (by omega) (fun j a b => h j a (by omega)), List.take_succ_eq_append_getElem (by omega)]
    have := lay_at (l := l) (k := k) (by omega)
    rw [List.getElem?_eq_getElem (by omega)] at this
    rw [Option.some.inj this]
/-- The row in the midst of it: the first q places hold what the first p layers, thinned, are; from q on it is as it was. -/
structure Midst (l cur : List (Int × Int)) (q p : Nat) : Prop where
  done : cur.take q = thinK l p
  len : (thinK l p).length = q
  rest : ∀ j, q ≤ j → cur[j]? = l[j]?
theorem Midst.skip {l cur : List (Int × Int)} {q p : Nat} (h : Midst l cur q p) (hk : kept l p = false) : Midst l cur q (p + 1) :=
  ⟨by rw [thinK, hk]; exact h.done, by rw [thinK, hk]; exact h.len, h.rest⟩
theorem Midst.keep {l cur : List (Int × Int)} {q p : Nat} {x y : Int} (h : Midst l cur q p) (hk : kept l p = true) (hp : l[p]? = some (x, y)) (hq : q < cur.length) : Midst l (cur.set q (x, y)) (q + 1) (p + 1) := by
  have e : thinK l (p + 1) = thinK l p ++ [(x, y)] := by rw [thinK, hk, if_pos rfl, depAt_at hp, spdAt_at hp]
  refine ⟨?_, by rw [e, List.length_append, h.len]; rfl, fun j hj => ?_⟩
  · rw [e, ← h.done, List.take_succ_eq_append_getElem (by rw [List.length_set]; exact hq)]
    have e2 : (cur.set q (x, y)).take q = cur.take q := by
      apply List.ext_getElem?
      intro i
      rw [List.getElem?_take, List.getElem?_take]
      split
      · rw [List.getElem?_set_ne (by omega)]
      · rfl
    rw [e2]; simp
  · rw [List.getElem?_set_ne (by omega)]; exact h.rest j (by omega)
def CompK (l : List (Int × Int)) (lo : Nat) (w : World) (e : Ending) (w' : World) : Prop :=
  ∃ g c, e = .returned (.slice (some ⟨g, 0, none⟩) (thin l).length c) ∧ Own2 w' lo w'.heap.size (some ⟨g, 0, none⟩) (thin l).length (thin l) ∧ Below lo w w' ∧ (thin l).length ≤ c ∧ c ≤ maxLen
theorem kept_at {l : List (Int × Int)} {k : Nat} {x y x' y' : Int} (h : l[k + 1]? = some (x, y)) (h' : l[k]? = some (x', y')) : kept l (k + 1) = !(y == y') := by
  rw [kept_succ, spdAt_at h, spdAt_at h']
  by_cases e : y = y'
  · subst e; simp
  · rw [beq_eq_false_iff_ne.2 e, bne_iff_ne.2 (fun q => e q.symm)]; rfl
end Go.Proofs.Ytdmnkmdlochogab
