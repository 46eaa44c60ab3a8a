/-
  Whether a track has a spike, the program: contract of impl.hasSpike over this translation. Conditions: stated at each theorem.
-/
import Derived.Test.YtjekmmekkfmplaaEn
import Derived.Test.YtjekmmekkfmplaaEh
namespace Go.Proofs.Ytjekmmekkfmplaa
open Go.RowKit Go.Shelf
set_option linter.unusedVariables false
attribute [local go_sem] Oper.semAt_some

theorem spike_mem {T : List Int} {l : Int} {j : Nat} (hj : j + 2 < T.length) (h : upB T l (j + 1) = true ∨ dnB T l (j + 1) = true) : quB T l = false := by
  unfold quB
  rw [decide_eq_false_iff_not]
  intro h0
  rcases h with h | h
  · have hm : ((j + 1 : Nat) : Int) ∈ upS T l := coL_mem.2 ⟨j, by omega, h, rfl⟩
    have := List.length_pos_of_mem hm
    omega
  · have hm : ((j + 1 : Nat) : Int) ∈ dnS T l := coL_mem.2 ⟨j, by omega, h, rfl⟩
    have := List.length_pos_of_mem hm
    omega
theorem spike_none {T : List Int} {l : Int} (h : ∀ j, j + 2 < T.length → upB T l (j + 1) = false ∧ dnB T l (j + 1) = false) : quB T l = true := by
  unfold quB
  rw [decide_eq_true_eq]
  have h1 : upS T l = [] := List.eq_nil_iff_forall_not_mem.2 fun x hx => by
    obtain ⟨i, hi, hp, _⟩ := coL_mem.1 hx
    rw [(h i (by omega)).1] at hp
    cases hp
  have h2 : dnS T l = [] := List.eq_nil_iff_forall_not_mem.2 fun x hx => by
    obtain ⟨i, hi, hp, _⟩ := coL_mem.1 hx
    rw [(h i (by omega)).2] at hp
    cases hp
  rw [h1, h2]
  rfl
theorem range_all {n : Nat} {p : Nat → Prop} {ys : List (Fin n)} (hz : ys.map Fin.val = List.range n) (h : ∀ x ∈ ys, p x.1) : ∀ j, j < n → p j := fun j hj => by
  have hm : j ∈ ys.map Fin.val := by rw [hz]; exact List.mem_range.2 hj
  obtain ⟨x, hx, rfl⟩ := List.mem_map.1 hm
  exact h x hx
theorem cells_keptE {W W' : World} {row : Option Nat} {a : Addr} {v : Value} (h : W.cell? a = some v) (hg : W.grownBy W' row) (hr : ∀ r, row = some r → ∃ o : Obj, W.heap[r]? = some o ∧ o.isCells = false) : W'.cell? a = some v := cell_kept h hg hr
theorem boxed_next {W W' : World} {B : Nat} {t : TypeId} {v : Value} (h : Boxed W B t v) (hb : Below W.heap.size W W') : Boxed W' B t v := (hb.block _ h.lt).trans h
theorem keepsF_below {B : Nat} {W W' : World} (h : Below W.heap.size W W') : KeepsFrom B W W' := ⟨h.size, fun k o _ hk _ => (h.block k (Array.getElem?_eq_some_iff.1 hk).1).trans hk⟩
theorem kpE_next {n₀ Bs : Nat} {W W' : World} (h : Below W.heap.size W W') (hn : n₀ ≤ W.heap.size) (hs : Bs < W.heap.size) : KpE n₀ Bs W W' := ⟨h.mono hn, h.block _ hs⟩
set_option maxRecDepth 100000 in
set_option maxHeartbeats 6400000 in
theorem has_in (A : Option Addr) (c lo hi : Nat) (T : List Int) (l : Int) (w : World) (ht : IFun w lo hi A T.length (fun j => T.getD j 0)) (hh : hi ≤ w.heap.size) (hT : Trk T) :
    Calls Try.prog 67 #[.slice A T.length c, .int .i64 l] w fun e w' => e = .returned (.bool (!(quB T l))) ∧ Below w.heap.size w w' := by
  have h3 := hT.lo
  have h30 := hT.hi
  have HT := Lib.hid hT.one
  refine (callsIn_wide (n := 9)).1 ?_
  refine callsIn_of_wp_marks Try.func67 rfl trivial ?_ rfl
  simp only [Try.ntmps67, List.size_toArray, List.length_cons, List.length_nil, Nat.reduceAdd, Nat.reduceSub, Array.replicate_succ, Array.replicate_zero, List.push_toArray, List.append_toArray, List.nil_append, List.cons_append]
  gi_wp2_with (refine ⟨trivial, ?_⟩; gi_at_call 55; refine (callsIn_wide.2 (inners_in _ _ _ _)).mono ?_; rintro e w' ⟨rfl, rfl⟩)
  have bL := ((Boxed.new w 3 (.int .i64 l)).alloc (.cells #[.bool false] 4)).alloc (.cells #[.slice A T.length c] 24)
  have bR := (Boxed.new (w.alloc (.cells #[.int .i64 l] 3)) 4 (.bool false)).alloc (.cells #[.slice A T.length c] 24)
  have bB := Boxed.new ((w.alloc (.cells #[.int .i64 l] 3)).alloc (.cells #[.bool false] 4)) 24 (.slice A T.length c)
  simp only [World.size_alloc] at bR bB
  have hB0 : Below w.heap.size w (((w.alloc (.cells #[.int .i64 l] 3)).alloc (.cells #[.bool false] 4)).alloc (.cells #[.slice A T.length c] 24)) := (((Below.refl _ w).alloc (Nat.le_refl _) _).alloc (by simp) _).alloc (by simp; omega) _
  have hsz : (((w.alloc (.cells #[.int .i64 l] 3)).alloc (.cells #[.bool false] 4)).alloc (.cells #[.slice A T.length c] 24)).heap.size = w.heap.size + 3 := by simp
  obtain ⟨W0, hW0⟩ : ∃ W0, ((w.alloc (.cells #[.int .i64 l] 3)).alloc (.cells #[.bool false] 4)).alloc (.cells #[.slice A T.length c] 24) = W0 := ⟨_, rfl⟩
  rw [hW0] at bL bR bB hB0 hsz
  try rw [hW0]
  clear hW0
  refine wpIn_rangeFunc_ownH rfl (by omega) (gf := 81) (lb := #[.pointer (some ⟨w.heap.size + 1 + 1, 0, none⟩)]) rfl trivial (enters_of Try.func81 (by kernel_rfl) rfl)
    (inners_stops (w.heap.size + 1 + 1) w.heap.size lo hi A c T h3 (by omega) W0 (by omega) (by omega) bB.cell (ht.on hB0 hh) hh) kpE_t (kpE_b (by omega) (by omega)) (Below.refl _ _) (fun _ => rfl)
    (fun pre W => (((∀ x ∈ pre, upB T l (x.1 + 1) = false ∧ dnB T l (x.1 + 1) = false) ∧ Boxed W w.heap.size 3 (.int .i64 l)) ∧ Boxed W (w.heap.size + 1) 4 (.bool false) ∧ Boxed W (w.heap.size + 1 + 1) 24 (.slice A T.length c)) ∧ Below w.heap.size w W)
    (fun c pre W => ((c = .ret ∧ quB T l = false) ∧ Boxed W (w.heap.size + 1) 4 (.bool true)) ∧ Below w.heap.size w W)
    (OwnFrom.and (OwnFrom.and (OwnFrom.and (ownFrom_pure _ _) (Own.from (boxed_own _ _ _) _)) (OwnFrom.and (Own.from (boxed_own _ _ _) _) (Own.from (boxed_own _ _ _) _))) (ownFrom_below (Nat.le_refl _) (by omega)))
    (fun c => OwnFrom.and (OwnFrom.and (ownFrom_pure _ _) (Own.from (boxed_own _ _ _) _)) (ownFrom_below (Nat.le_refl _) (by omega)))
    ⟨⟨⟨fun x hx => (by cases hx), bL⟩, bR, bB⟩, hB0⟩
    (fun x a' W => ∃ Bx, w.heap.size + 1 + 1 < Bx ∧ Bx < W.heap.size ∧ (W.cell? ⟨Bx, 0, none⟩ = some (.int .i64 (T.getD x.1 0)) ∧ W.cell? ⟨Bx, 1, none⟩ = some (.int .i64 (T.getD (x.1 + 1) 0)) ∧ W.cell? ⟨Bx, 2, none⟩ = some (.int .i64 (T.getD (x.1 + 2) 0))) ∧ a' = { tmps := #[.slice A T.length c, .int .i64 l, undef, .pointer (some ⟨w.heap.size, 0, none⟩), .pointer (some ⟨w.heap.size + 1, 0, none⟩), undef, .pointer (some ⟨Bx, 0, none⟩), .slice A T.length c, .func (.func 81) #[] #[.pointer (some ⟨w.heap.size + 1 + 1, 0, none⟩)], .int .i64 ((x.1 : Int) + 1), .agg #[.int .i64 (T.getD x.1 0), .int .i64 (T.getD (x.1 + 1) 0), .int .i64 (T.getD (x.1 + 2) 0)], undef, undef, undef, undef, undef, undef, undef, undef], defers := [] })
    (fun x a' _ X Y row hs hg hr => by obtain ⟨Bx, h1, h1', ⟨h2, h2', h2''⟩, h3⟩ := hs; exact ⟨Bx, h1, Nat.lt_of_lt_of_le h1' hg.size, ⟨cells_keptE h2 hg (fun r e => (hr r e).2), cells_keptE h2' hg (fun r e => (hr r e).2), cells_keptE h2'' hg (fun r e => (hr r e).2)⟩, h3⟩)
    ?assign ?body ?done ?stop
  case assign =>
    rintro lp pre x W K ⟨⟨⟨hq1, bL1⟩, bR1, bB1⟩, hB1⟩ hK
    gi_wp2
    exact hK _ _ ((KeepsOthers.alloc _ _).from _) ⟨(Below.refl _ W).alloc hB1.size _, Below.heap_alloc W _ _ (bB1.lt)⟩ ⟨⟨⟨hq1, bL1.alloc _⟩, bR1.alloc _, bB1.alloc _⟩, hB1.alloc hB1.size _⟩ ⟨W.heap.size, bB1.lt, by simp, ⟨World.cell?_alloc_new _ _ _ _, World.cell?_alloc_new _ _ _ _, World.cell?_alloc_new _ _ _ _⟩, rfl⟩
  case body =>
    rintro lp pre x a' W hlp ⟨r, hr⟩ ⟨⟨⟨hq1, bL1⟩, bR1, bB1⟩, hB1⟩ ⟨Bx, hBx, hBx2, ⟨bX0, bX1, bX2⟩, rfl⟩ hlt
    have hx9 := HT.out x.1 (by omega)
    have hy9 := HT.out (x.1 + 1) (by omega)
    have hz9 := HT.out (x.1 + 2) (by omega)
    have hup := up_eq (T := T) (l := l) (j := x.1) rfl rfl rfl
    have hdn := dn_eq (T := T) (l := l) (j := x.1) rfl rfl rfl
    rw [show x.1 + 1 + 1 = x.1 + 2 from rfl] at hup hdn
    obtain ⟨X, hX⟩ : ∃ X, T.getD x.1 0 = X := ⟨_, rfl⟩
    obtain ⟨Y, hY⟩ : ∃ Y, T.getD (x.1 + 1) 0 = Y := ⟨_, rfl⟩
    obtain ⟨Z, hZ⟩ : ∃ Z, T.getD (x.1 + 2) 0 = Z := ⟨_, rfl⟩
    rw [hX] at hx9 bX0 hup hdn
    rw [hY] at hy9 bX1 hup hdn
    rw [hZ] at hz9 bX2 hup hdn
    rw [hX, hY, hZ]
    clear hX hY hZ
    have hd0 : 1 ≤ 9 - 1 - 1 := by omega
    have HB1 := Lib.hid hB1
    have HQ := Lib.hid hq1
    have cL := bL1.cell
    have fR := bR1.frozen
    have cR := bR1.cell
    clear hB1 hq1
    have hn1 : Bx ≠ w.heap.size + 1 := by omega
    have hxy : (-1000000 ≤ X ∧ X ≤ 1000000) ∧ (-1000000 ≤ Y ∧ Y ≤ 1000000) ∧ (-1000000 ≤ Z ∧ Z ≤ 1000000) := by omega
    obtain ⟨hx8, hy8, hz8⟩ := hxy
    rcases hu : upB T l (x.1 + 1) with _ | _
    rotate_left
    · have HS : Hid (quB T l = false) := Lib.hid (spike_mem (by omega) (.inl hu))
      rw [hu] at hup
      have HU := Lib.hid hup.symm
      clear hup hdn hu
      gi_wp2
      refine ⟨trivial, (CallsIn.inRound lp (callsIn_wide.2 (isUp_v X Y Z l true HU.out _ hx8 hy8 hz8))).mono ?_⟩
      rintro e w1 ⟨rfl, hb1⟩
      have bR2 := boxed_next bR1 hb1
      have cR2 := bR2.cell
      have fR2 := bR2.frozen
      have HB2 := Lib.hid (bthen HB1.out hb1 HB1.out.size)
      have HK := Lib.hid (keepsF_below (B := W0.heap.size) hb1)
      clear cL cR fR hb1
      gi_wp2
      refine ⟨trivial, ?_⟩
      gi_wp2
      exact ⟨HK.out.trans ((KeepsOthers.setCell _ _ _).from _), ⟨⟨rfl, HS.out⟩, bR2.set _⟩, HB2.out.setCell (p := ⟨w.heap.size + 1, 0, none⟩) (by simp) _⟩
    have HQU := Lib.hid hu
    rw [hu] at hup
    have HU := Lib.hid hup.symm
    clear hup hu
    rcases hv : dnB T l (x.1 + 1) with _ | _
    · have HS : Hid (∀ y ∈ pre ++ [x], upB T l (y.1 + 1) = false ∧ dnB T l (y.1 + 1) = false) := Lib.hid (by
        intro y hy
        rcases List.mem_append.1 hy with h | h
        · exact HQ.out y h
        · rw [List.mem_singleton.1 h]; exact ⟨HQU.out, hv⟩)
      rw [hv] at hdn
      have HD := Lib.hid hdn.symm
      clear hdn hv
      gi_wp2
      refine ⟨trivial, (CallsIn.inRound lp (callsIn_wide.2 (isUp_v X Y Z l false HU.out _ hx8 hy8 hz8))).mono ?_⟩
      rintro e w1 ⟨rfl, hb1⟩
      have bL2 := boxed_next bL1 hb1
      have bR2 := boxed_next bR1 hb1
      have bB2 := boxed_next bB1 hb1
      have cL2 := bL2.cell
      have bY0 := cell_next hb1 bX0
      have bY1 := cell_next hb1 bX1
      have bY2 := cell_next hb1 bX2
      have HB2 := Lib.hid (bthen HB1.out hb1 HB1.out.size)
      have HK := Lib.hid (keepsF_below (B := W0.heap.size) hb1)
      have HE := Lib.hid (kpE_next (n₀ := w.heap.size) (Bs := w.heap.size + 1 + 1) hb1 HB1.out.size bB1.lt)
      clear cL cR fR hb1 bX0 bX1 bX2
      gi_wp2
      refine ⟨trivial, (CallsIn.inRound lp (callsIn_wide.2 (isDown_v X Y Z l false HD.out _ hx8 hy8 hz8))).mono ?_⟩
      rintro e w2 ⟨rfl, hb2⟩
      have HB3 := Lib.hid (bthen HB2.out hb2 HB2.out.size)
      have HK3 := Lib.hid (HK.out.trans (keepsF_below (B := W0.heap.size) hb2))
      have HE3 := Lib.hid (kpE_t HE.out (kpE_next (n₀ := w.heap.size) (Bs := w.heap.size + 1 + 1) hb2 HB2.out.size bB2.lt))
      have HBX := Lib.hid (And.intro (boxed_next bL2 hb2) (And.intro (boxed_next bR2 hb2) (boxed_next bB2 hb2)))
      clear cL2 hb2 bY0 bY1 bY2
      gi_wp2
      exact ⟨HK3.out, HE3.out, ⟨⟨HS.out, HBX.out.1⟩, HBX.out.2.1, HBX.out.2.2⟩, HB3.out⟩
    · have HS : Hid (quB T l = false) := Lib.hid (spike_mem (by omega) (.inr hv))
      rw [hv] at hdn
      have HD := Lib.hid hdn.symm
      clear hdn hv
      gi_wp2
      refine ⟨trivial, (CallsIn.inRound lp (callsIn_wide.2 (isUp_v X Y Z l false HU.out _ hx8 hy8 hz8))).mono ?_⟩
      rintro e w1 ⟨rfl, hb1⟩
      have bL2 := boxed_next bL1 hb1
      have bR2 := boxed_next bR1 hb1
      have cL2 := bL2.cell
      have bY0 := cell_next hb1 bX0
      have bY1 := cell_next hb1 bX1
      have bY2 := cell_next hb1 bX2
      have HB2 := Lib.hid (bthen HB1.out hb1 HB1.out.size)
      have HK := Lib.hid (keepsF_below (B := W0.heap.size) hb1)
      clear cL cR fR hb1 bX0 bX1 bX2
      gi_wp2
      refine ⟨trivial, (CallsIn.inRound lp (callsIn_wide.2 (isDown_v X Y Z l true HD.out _ hx8 hy8 hz8))).mono ?_⟩
      rintro e w2 ⟨rfl, hb2⟩
      have bR3 := boxed_next bR2 hb2
      have cR3 := bR3.cell
      have fR3 := bR3.frozen
      have HB3 := Lib.hid (bthen HB2.out hb2 HB2.out.size)
      have HK3 := Lib.hid (HK.out.trans (keepsF_below (B := W0.heap.size) hb2))
      clear cL2 hb2 bY0 bY1 bY2
      gi_wp2
      exact ⟨HK3.out.trans ((KeepsOthers.setCell _ _ _).from _), ⟨⟨rfl, HS.out⟩, bR3.set _⟩, HB3.out.setCell (p := ⟨w.heap.size + 1, 0, none⟩) (by simp) _⟩
  case done =>
    rintro D zs W hD hz ⟨⟨⟨hq1, bL1⟩, bR1, bB1⟩, hB1⟩ hK
    have HQ : Hid (quB T l = true) := Lib.hid (spike_none fun j hj => range_all (p := fun j => upB T l (j + 1) = false ∧ dnB T l (j + 1) = false) hz hq1 j (by omega))
    have HB1 := Lib.hid hB1
    have cR := bR1.cell
    have fR := bR1.frozen
    clear hq1 hB1 hz
    gi_wp2
    have hK2 := (KeepsOthers.setCell W ⟨w.heap.size + 1, 0, none⟩ (.bool false)).same D _ hK rfl
    refine ⟨by simp, .inl ⟨_, _, rfl, run_takeDeferred hK2, ?_⟩⟩
    have hc5 := cell_kept (bR1.set (.bool false)).cell (grownBy_putObj' _ D (.deferred none)) (fun r e => by cases e; exact ⟨_, hK2, rfl⟩)
    refine ⟨.bool false, ?_, by rw [HQ.out]; rfl, (HB1.out.setCell (p := ⟨w.heap.size + 1, 0, none⟩) (by simp) _).trans (belowK_b (w := w) (Nat.le_refl _) _ D _ _ (by omega) hK2 rfl rfl)⟩
    simp [results, Try.f67, go_sem, hc5]
  case stop =>
    rintro D cc pre W hD _ ⟨⟨⟨rfl, hq⟩, bR1⟩, hB1⟩ hK
    have HQ := Lib.hid hq
    have HB1 := Lib.hid hB1
    have cR := bR1.cell
    clear hB1 hq
    gi_wp2
    refine ⟨by simp, .inl ⟨_, _, rfl, run_takeDeferred hK, ?_⟩⟩
    have hc5 := cell_kept bR1.cell (grownBy_putObj' _ D (.deferred none)) (fun r e => by cases e; exact ⟨_, hK, rfl⟩)
    refine ⟨.bool true, ?_, by rw [HQ.out]; rfl, HB1.out.trans (belowK_b (w := w) (Nat.le_refl _) W D _ _ (by omega) hK rfl rfl)⟩
    simp [results, Try.f67, go_sem, hc5]
end Go.Proofs.Ytjekmmekkfmplaa
