/-
  Median filters, the program: contracts of impl.filteredOnce, MedianFilter over this translation. Conditions: stated at each theorem.
-/
import Derived.Test.YtjekmmekkfmplaaEq
import Derived.Laws.CopyOwn
namespace Go.Proofs.Ytjekmmekkfmplaa
open Go.RowKit Go.Shelf
set_option linter.unusedVariables false
attribute [local go_sem] Oper.semAt_some

/-! ### The filtered track, place by place -/
def flE (T : List Int) (xs : List Nat) : List Int := xs.foldl (fun L j => L.set (j + 1) (mdT T (j + 1))) T
theorem flE_snoc (T : List Int) (xs : List Nat) (j : Nat) : flE T (xs ++ [j]) = (flE T xs).set (j + 1) (mdT T (j + 1)) := by simp [flE]
theorem flE_len (T : List Int) : ∀ (xs : List Nat) (L : List Int), (xs.foldl (fun L j => L.set (j + 1) (mdT T (j + 1))) L).length = L.length
  | [], L => rfl
  | j :: xs, L => by rw [List.foldl_cons, flE_len T xs, List.length_set]
theorem flE_range (T : List Int) : ∀ k, flE T (List.range k) = mfK T k
  | 0 => rfl
  | k + 1 => by rw [List.range_succ, flE_snoc, flE_range T k]; rfl
theorem fl_put {T : List Int} {w : World} {lo hi g n j : Nat} {xs : List Nat} (h : IFun w lo hi (some ⟨g, 0, none⟩) n (fun k => (flE T xs).getD k 0)) (hj : j + 1 < T.length) :
    IFun (w.setCell ⟨g, j + 1, none⟩ (.int .i64 (mdT T (j + 1)))) lo hi (some ⟨g, 0, none⟩) n (fun k => (flE T (xs ++ [j])).getD k 0) :=
  (h.set (k := j + 1) (mdT T (j + 1))).congr fun i hi => by
    have hl : (flE T xs).length = T.length := flE_len T xs T
    rw [flE_snoc]
    by_cases e : i = j + 1
    · subst e; rw [if_pos rfl, getD_set_eq (by omega)]
    · rw [if_neg e, getD_set_ne (Ne.symm e)]
theorem ifun_ownE {β : Type} (lo hi n : Nat) (A : Option Addr) (f : β → Nat → Int) : Own (fun s W => IFun W lo hi A n (f s)) := fun s X Y row hs hg hr k hk => by
  obtain ⟨g, e, a, b, c, d⟩ := hs k hk
  exact ⟨g, e, a, b, cell_kept c hg hr, (frozen_kept c hg hr).trans d⟩
def FiltP (T : List Int) (w : World) (e : Ending) (w' : World) : Prop :=
  e = .returned (.slice (some ⟨w.heap.size, 0, none⟩) T.length T.length) ∧ IFun w' w.heap.size (w.heap.size + 1) (some ⟨w.heap.size, 0, none⟩) T.length (fun j => (mfL T).getD j 0) ∧ Below w.heap.size w w'
/-- A row that was made and into which as many numbers were copied as it has. -/
theorem own_copied {w1 : World} {B g n : Nat} {T : List Int} {cs : List Value} (h : w1.ownsRow B 3 1 (.slice (some ⟨g, 0, none⟩) n n) n cs) (hn : T.length = n) :
    ∃ cur : Array Value, w1.heap[g]? = some (.cells cur 3 (0, 0)) ∧ cur.size = n ∧ (w1.setRow g (cur.toList.take 0 ++ ivs T ++ cur.toList.drop (0 + (ivs T).length)).toArray).ownsRow B 3 1 (.slice (some ⟨g, 0, none⟩) n n) n (ivs T) := by
  rcases h.2 with ⟨e, _⟩ | ⟨g', cap, cur, e, hb, hg, h1, h2, h3, h4⟩
  · cases e
  · injection e with e1 e2 e3
    injection e1 with e1
    injection e1 with e1
    subst e1
    subst e3
    have hl := ivs_len T
    refine ⟨cur, hg, by omega, ⟨by omega, .inr ⟨g, n, _, rfl, hb, setRow_heap w1 g cur _ 3 (0, 0) hg, Nat.le_refl _, h2, ?_, ?_⟩⟩⟩
    · simp
      omega
    · rw [List.take_of_length_le (by simp; omega)]
      simp
      omega
theorem own_blockE {W : World} {B g n c : Nat} {xs : List Int} (h : W.ownsRow B 3 1 (.slice (some ⟨g, 0, none⟩) n c) n (ivs xs)) : IFun W g (g + 1) (some ⟨g, 0, none⟩) n (fun j => xs.getD j 0) := fun k hk => by
  obtain ⟨b, e, _, _, c0, f0⟩ := ifun_of_own h k hk
  obtain rfl : g = b := by injection e with e; injection e
  exact ⟨g, rfl, Nat.le_refl _, Nat.lt_succ_self _, c0, f0⟩
set_option maxRecDepth 100000 in
set_option maxHeartbeats 6400000 in
theorem filter_in (g c lo hi : Nat) (T : List Int) (w : World) (ht : IFun w lo hi (some ⟨g, 0, none⟩) T.length (fun j => T.getD j 0)) (hh : hi ≤ w.heap.size) (hT : Trk T) :
    Calls Try.prog 68 #[.slice (some ⟨g, 0, none⟩) T.length c] w (FiltP T w) := by
  obtain ⟨i0, hi0, hz0, hz1, hz2⟩ := info_parts info3
  have hmx : Try.prog.follows .mixedOrders = true := by kernel_rfl
  have h3 := hT.lo
  have h30 := hT.hi
  have HI := Lib.hid ht
  have ht1 := ht
  clear ht
  refine (callsIn_wide (n := 9)).1 ?_
  refine callsIn_of_wp_marks Try.func68 rfl trivial ?_ rfl
  simp only [Try.ntmps68, List.size_toArray, List.length_cons, List.length_nil, Nat.reduceAdd, Nat.reduceSub, Array.replicate_succ, Array.replicate_zero, List.push_toArray, List.append_toArray, List.nil_append, List.cons_append]
  refine wpIn_wide.2 ?_
  have HL : Hid ((ivs T).length = Nat.min T.length T.length) := Lib.hid (by rw [ivs_len]; exact (Nat.min_self _).symm)
  have H1 : Hid (∀ u ∈ ivs T, u.oneCell' = true) := Lib.hid (by
    intro u hu
    simp only [ivs, List.mem_map] at hu
    obtain ⟨y, _, rfl⟩ := hu
    rfl)
  go_wp2_with (at_make; refine wpList_make_full _ rfl _ _ 24 rfl w.heap.size 3 i0 (.int .i64 0) 1 Try.underlying24 hi0 hz0 hz1 .i64 .i64 _ _ T.length rfl rfl rfl rfl (by rw [hz2]; omega) (by unfold maxLen; omega) (Nat.le_refl _) ?_; intro w1 hown hgrow)
  have hs1 : w.heap.size < w1.heap.size := (hown.lt _ rfl).2
  obtain ⟨WA, hWA⟩ : ∃ WA, w1.alloc (.cells #[.slice (some ⟨w.heap.size, 0, none⟩) T.length T.length] 24) = WA := ⟨_, rfl⟩
  have hszA : WA.heap.size = w1.heap.size + 1 := by rw [← hWA]; simp
  have bA : Boxed WA w1.heap.size 24 (.slice (some ⟨w.heap.size, 0, none⟩) T.length T.length) := by rw [← hWA]; exact Boxed.new _ _ _
  have hownA := hown.alloc (.cells #[.slice (some ⟨w.heap.size, 0, none⟩) T.length T.length] 24)
  rw [hWA] at hownA
  have hBA : Below w.heap.size w WA := by rw [← hWA]; exact ((Below.refl w.heap.size w).grown hgrow (Nat.le_refl _) (fun k e => by cases e)).alloc (by omega) _
  obtain ⟨cur, hcg, hcs, hown2⟩ := own_copied hownA rfl
  have hQ := (ifun_cells (ht1.on hBA hh) rfl (by omega)).2
  have hF : 0 + (ivs T).length ≤ cur.size := by rw [ivs_len, hcs]; omega
  rw [hWA, run_copy_row (P := Try.prog) WA 24 24 3 3 w.heap.size 0 T.length T.length ⟨g, 0, none⟩ T.length c cur 3 (ivs T) Try.underlying24 (by kernel_rfl) hcg HL.out hQ hF H1.out]
  obtain ⟨q1, hq1⟩ : ∃ q1, w1.heap.size = q1 := ⟨_, rfl⟩
  rw [hq1] at hs1 hszA bA ⊢
  obtain ⟨w2, hw2⟩ : ∃ w2, w2 = WA.setRow w.heap.size (cur.toList.take 0 ++ ivs T ++ cur.toList.drop (0 + (ivs T).length)).toArray := ⟨_, rfl⟩
  have hB2 : Below w.heap.size w w2 := by rw [hw2]; exact below_setRow hBA (Nat.le_refl _) _
  have b2 : Boxed w2 q1 24 (.slice (some ⟨w.heap.size, 0, none⟩) T.length T.length) := by
    rw [hw2]
    exact (setRow_other WA w.heap.size q1 _ (by omega)).trans bA
  have hsz2 : w2.heap.size = q1 + 1 := by rw [hw2, ← hszA]; simp [World.setRow]
  rw [← hw2] at hown2 ⊢
  have HO2 := Lib.hid (own_blockE hown2)
  have HBB := Lib.hid hB2
  have cA := b2.cell
  clear hWA hszA bA hownA hBA hcg hcs hown2 hQ hF hq1 hw2 hown hgrow hB2
  go_wp2_with fail
  refine (inners_in _ _ _ _).mono ?_
  rintro e w' ⟨rfl, rfl⟩
  go_wp2_with fail
  refine (wpIn_wide (n := 9)).1 ?_
  have bP := b2.alloc (.cells #[.slice (some ⟨g, 0, none⟩) T.length c] 24)
  have bB := Boxed.new w2 24 (.slice (some ⟨g, 0, none⟩) T.length c)
  rw [hsz2] at bB
  have hO0 : IFun (w2.alloc (.cells #[.slice (some ⟨g, 0, none⟩) T.length c] 24)) w.heap.size (w.heap.size + 1) (some ⟨w.heap.size, 0, none⟩) T.length (fun k => (flE T []).getD k 0) := HO2.out.on ((Below.refl w2.heap.size w2).alloc (Nat.le_refl _) _) (by omega)
  have hB0 : Below w.heap.size w (w2.alloc (.cells #[.slice (some ⟨g, 0, none⟩) T.length c] 24)) := HBB.out.alloc HBB.out.size _
  have hsz : (w2.alloc (.cells #[.slice (some ⟨g, 0, none⟩) T.length c] 24)).heap.size = q1 + 2 := by simp; omega
  obtain ⟨W0, hW0⟩ : ∃ W0, w2.alloc (.cells #[.slice (some ⟨g, 0, none⟩) T.length c] 24) = W0 := ⟨_, rfl⟩
  rw [hW0] at bP bB hO0 hB0 hsz ⊢
  clear hW0 b2 cA hsz2
  refine wpIn_rangeFunc_ownH rfl (by omega) (gf := 81) (lb := #[.pointer (some ⟨q1 + 1, 0, none⟩)]) rfl trivial (enters_of Try.func81 (by kernel_rfl) rfl)
    (inners_stops (q1 + 1) w.heap.size lo hi (some ⟨g, 0, none⟩) c T h3 (by omega) W0 (by omega) (by omega) bB.cell (ht1.on hB0 hh) hh) kpE_t (kpE_b (by omega) (by omega)) (Below.refl _ _) (fun _ => rfl)
    (fun pre W => (IFun W w.heap.size (w.heap.size + 1) (some ⟨w.heap.size, 0, none⟩) T.length (fun k => (flE T (pre.map Fin.val)).getD k 0) ∧ Boxed W q1 24 (.slice (some ⟨w.heap.size, 0, none⟩) T.length T.length) ∧ Boxed W (q1 + 1) 24 (.slice (some ⟨g, 0, none⟩) T.length c)) ∧ Below w.heap.size w W)
    (fun _ _ _ => False)
    (OwnFrom.and (OwnFrom.and (Own.from (ifun_ownE _ _ _ _ _) _) (OwnFrom.and (Own.from (boxed_own _ _ _) _) (Own.from (boxed_own _ _ _) _))) (ownFrom_below (Nat.le_refl _) (by omega)))
    (fun _ _ _ _ _ hs _ _ => hs)
    ⟨⟨hO0, bP, bB⟩, hB0⟩
    (fun x a' W => ∃ Bx, q1 + 1 < Bx ∧ Bx < W.heap.size ∧ (W.cell? ⟨Bx, 0, none⟩ = some (.int .i64 (T.getD x.1 0)) ∧ W.cell? ⟨Bx, 1, none⟩ = some (.int .i64 (T.getD (x.1 + 1) 0)) ∧ W.cell? ⟨Bx, 2, none⟩ = some (.int .i64 (T.getD (x.1 + 2) 0))) ∧ a' = { tmps := #[.slice (some ⟨g, 0, none⟩) T.length c, undef, .slice none 0 0, .pointer (some ⟨q1, 0, none⟩), .int .i64 ((x.1 : Int) + 1), .pointer (some ⟨Bx, 0, none⟩), .slice (some ⟨g, 0, none⟩) T.length c, .int .i64 T.length, .slice (some ⟨w.heap.size, 0, none⟩) T.length T.length, .slice (some ⟨w.heap.size, 0, none⟩) T.length T.length, .slice (some ⟨g, 0, none⟩) T.length c, .int .i64 (ivs T).length, .slice (some ⟨g, 0, none⟩) T.length c, .func (.func 81) #[] #[.pointer (some ⟨q1 + 1, 0, none⟩)], .int .i64 ((x.1 : Int) + 1), .agg #[.int .i64 (T.getD x.1 0), .int .i64 (T.getD (x.1 + 1) 0), .int .i64 (T.getD (x.1 + 2) 0)], undef, undef, undef, undef, undef, undef], defers := [] })
    (fun x a' _ X Y row hs hg hr => by obtain ⟨Bx, h1, h1', ⟨h2, h2', h2''⟩, h3⟩ := hs; exact ⟨Bx, h1, Nat.lt_of_lt_of_le h1' hg.size, ⟨cells_keptE h2 hg (fun r e => (hr r e).2), cells_keptE h2' hg (fun r e => (hr r e).2), cells_keptE h2'' hg (fun r e => (hr r e).2)⟩, h3⟩)
    ?assign ?body ?done ?stop
  case assign =>
    rintro lp pre x W K ⟨⟨hO1, bP1, bB1⟩, hB1⟩ hK
    gi_wp2
    exact hK _ _ ((KeepsOthers.alloc _ _).from _) ⟨(Below.refl _ W).alloc hB1.size _, Below.heap_alloc W _ _ (bB1.lt)⟩ ⟨⟨hO1.on ((Below.refl W.heap.size W).alloc (Nat.le_refl _) _) (by have := bP1.lt; omega), bP1.alloc _, bB1.alloc _⟩, hB1.alloc hB1.size _⟩ ⟨W.heap.size, bB1.lt, by simp, ⟨World.cell?_alloc_new _ _ _ _, World.cell?_alloc_new _ _ _ _, World.cell?_alloc_new _ _ _ _⟩, rfl⟩
  case body =>
    rintro lp pre ⟨j, hj⟩ a' W hlp ⟨r, hr⟩ ⟨⟨hO1, bP1, bB1⟩, hB1⟩ ⟨Bx, hBx, hBx2, ⟨bX0, bX1, bX2⟩, rfl⟩ hlt
    dsimp only at bX0 bX1 bX2 ⊢
    have hj2 : j + 2 < T.length := by omega
    have hji : (j : Int) + 1 < T.length := by omega
    obtain ⟨b, e', _, _, o1, f1⟩ := hO1 (j + 1) (by omega)
    obtain rfl : w.heap.size = b := by injection e' with h; injection h
    clear e'
    have hmt : mdT T (j + 1) = mdI (T.getD j 0) (T.getD (j + 1) 0) (T.getD (j + 2) 0) := by unfold mdT; rw [Nat.add_sub_cancel]
    obtain ⟨X, hX⟩ : ∃ X, T.getD j 0 = X := ⟨_, rfl⟩
    obtain ⟨Y, hY⟩ : ∃ Y, T.getD (j + 1) 0 = Y := ⟨_, rfl⟩
    obtain ⟨Z, hZ⟩ : ∃ Z, T.getD (j + 2) 0 = Z := ⟨_, rfl⟩
    obtain ⟨V, hV⟩ : ∃ V, mdI X Y Z = V := ⟨_, rfl⟩
    rw [hX, hY, hZ, hV] at hmt
    rw [hX] at bX0 ⊢
    rw [hY] at bX1 ⊢
    rw [hZ] at bX2 ⊢
    have HV := Lib.hid hV
    have HMT := Lib.hid hmt
    have hqW : w.heap.size + 1 ≤ W.heap.size := by have := bP1.lt; omega
    clear hX hY hZ hV hmt
    dsimp only at o1
    obtain ⟨u0, hu0⟩ : ∃ u0, (flE T (pre.map Fin.val)).getD (j + 1) 0 = u0 := ⟨_, rfl⟩
    rw [hu0] at o1
    clear hu0
    have HO1 := Lib.hid hO1
    have HB1 := Lib.hid hB1
    have hd0 : 1 ≤ 9 - 1 - 1 := by omega
    have cP := bP1.cell
    clear hO1 hB1
    gi_wp2
    have lc0 := lcell cP
    have lc1 := lcell bX0
    have lc2 := lcell bX1
    have lc3 := lcell bX2
    refine region_round (W := W) 5 [0, 1, 2] [3, 4] hmx (by kernel_rfl) (Below.refl _ _) (by kernel_rfl) (by rintro ⟨a, w, h⟩; exact h) (fun d _ _ _ _ h => by cases d <;> exact h) ?_
    simp only [picks, List.getElem?_cons_succ, List.getElem?_cons_zero, List.drop_succ_cons, List.drop_zero]
    repeat (go_big_quiet_step (fail))
    refine wpQuiet_nil ?_
    intro W3 hW1
    have HL : Hid (Below W.heap.size W W3) := by obtain ⟨x, rfl⟩ := hW1; exact Lib.hid x.below
    clear hW1 lc0 lc1 lc2 lc3
    simp only [wpMem]
    refine wpOp_step rfl (fun K hK => ?_)
    rw [if_pos (by rfl)]
    go_simp
    refine (med_v X Y Z V HV.out _).mono ?_
    rintro e w4 ⟨rfl, hb4⟩
    have hb5 := bthen HL.out hb4 HL.out.size
    refine hK _ _ ⟨⟨⟨_, hb5⟩, rfl⟩, ?_⟩
    clear hK K
    refine wpOp_step rfl (fun K hK => ?_)
    rw [if_pos (by rfl)]
    go_simp
    rw [if_pos (show 0 ≤ (j : Int) + 1 by omega)]
    go_simp
    refine hK _ _ ⟨⟨⟨_, hb5⟩, rfl⟩, ?_⟩
    clear hK K
    have o2 := cell_next hb5 o1
    have f2 : w4.frozen? ⟨w.heap.size, j + 1, none⟩ = false := by
      rw [World.frozen?_of_block (a := ⟨w.heap.size, j + 1, none⟩) (hb5.block w.heap.size (by omega))]
      exact f1
    have HB5 := Lib.hid (bthen HB1.out hb5 HB1.out.size)
    have HO5 := Lib.hid (HO1.out.on hb5 hqW)
    have HP5 := Lib.hid (And.intro (boxed_next bP1 hb5) (boxed_next bB1 hb5))
    have HK5 := Lib.hid (keepsF_below (B := W0.heap.size) hb5)
    have HE5 := Lib.hid (kpE_next (n₀ := w.heap.size) (Bs := q1 + 1) hb5 HB1.out.size bB1.lt)
    clear hb5 hb4 cP o1 f1 bX0 bX1 bX2
    go_wp2_with fail
    gi_wp2
    refine ⟨HK5.out.trans ((KeepsOthers.setCell _ _ _).from _), kpE_t HE5.out ⟨(Below.refl _ w4).setCell (p := ⟨w.heap.size, j + 1, none⟩) (Nat.le_refl _) _, (grown_set w4 ⟨w.heap.size, j + 1, none⟩ _).block _ HP5.out.2.lt (by simp; omega)⟩, ⟨?_, HP5.out.1.kept (grown_set _ _ _) (by simp; omega), HP5.out.2.kept (grown_set _ _ _) (by simp; omega)⟩, HB5.out.setCell (p := ⟨w.heap.size, j + 1, none⟩) (Nat.le_refl _) _⟩
    have h := fl_put HO5.out (j := j) (by omega)
    rw [HMT.out] at h
    rw [List.map_append]
    exact h
  case done =>
    rintro D zs W hD hz ⟨⟨hO1, bP1, bB1⟩, hB1⟩ hK
    rw [hz, flE_range] at hO1
    have HO1 := Lib.hid hO1
    have HB1 := Lib.hid hB1
    have cP := bP1.cell
    clear hO1 hB1 hz
    go_wp2_with fail
    refine ⟨by simp, .inl ⟨_, _, rfl, run_takeDeferred hK, ?_⟩⟩
    exact ⟨_, results_tmp rfl _ _ _, rfl, ifun_ownE _ _ _ _ (fun (_ : Unit) k => (mfL T).getD k 0) () _ _ _ HO1.out (grownBy_putObj' _ D (.deferred none)) (fun r e => by cases e; exact ⟨_, hK, rfl⟩), HB1.out.trans (belowK_b (w := w) (Nat.le_refl _) W D _ _ (by omega) hK rfl rfl)⟩
  case stop =>
    rintro D cc pre W _ _ h _
    exact h.elim
/-! ### MedianFilter -/
theorem filt_lt {w : World} {g n : Nat} {f : Nat → Int} (h : IFun w g (g + 1) (some ⟨g, 0, none⟩) n f) (hn : 0 < n) : g + 1 ≤ w.heap.size := by
  obtain ⟨b, e, _, _, c0, _⟩ := h 0 hn
  obtain rfl : g = b := by injection e with e; injection e
  rcases Nat.lt_or_ge g w.heap.size with h | h
  · exact h
  · simp [World.cell?, Array.getElem?_eq_none h] at c0
def IntsCap (L : List Int) (f : Nat → Int) (K : Bool) (w : World) (e : Ending) (w' : World) : Prop :=
  ∃ A c, L.length ≤ c ∧ e = .returned (.tuple #[.slice A L.length c, .bool K]) ∧ IFun w' w.heap.size w'.heap.size A L.length f ∧ Below w.heap.size w w'
theorem ints_cap {L : List Int} {f : Nat → Int} {K : Bool} {w w' : World} {e : Ending} (h : IntsCap L f K w e w') : IntsPost L f K w e w' := by
  obtain ⟨A, c, _, h⟩ := h
  exact ⟨A, c, h⟩
set_option maxHeartbeats 1600000 in
theorem mfilter_cap (A : Option Addr) (C lo hi : Nat) (T : List Int) (w : World) (ht : IFun w lo hi A T.length (fun j => T.getD j 0)) (hh : hi ≤ w.heap.size) (hm : T.length ≤ 1048576) :
    Calls Try.prog 33 #[.slice A T.length C] w (IntsCap (mfR T) (fun j => (mfR T).getD j 0) (trB T) w) := by
  rcases h1 : trB T with _ | _
  · have HI := Lib.hid ht
    have H1 := Lib.hid h1
    have HP := Lib.hid (mf_no h1)
    have HC := Lib.hid (col_start 3 1 (Below.refl w.heap.size w))
    clear h1 ht
    go_enter Try.func33, Try.ntmps33
    go_wp2_with fail
    refine (isTrE_impl _ _ _ _ _ _ H1.out _ HI.out hm).mono ?_
    rintro e w' ⟨rfl, rfl⟩
    go_wp2_with fail
    go_ret2
    exact ⟨some ⟨w.heap.size, 0, none⟩, 0, by rw [HP.out.1]; simp, by rw [HP.out.1]; rfl, fun k hk => absurd hk (by rw [HP.out.1]; simp), HC.out.2⟩
  have H1 := Lib.hid h1
  have HP := Lib.hid (mf_yes h1)
  have HT := Lib.hid (trk_of h1)
  have h3 := (trk_of h1).lo
  obtain ⟨g, rfl, _⟩ := ht 0 (by omega)
  have HI := Lib.hid ht
  clear h1 ht
  go_enter Try.func33, Try.ntmps33
  go_wp2_with fail
  refine (isTrE_impl _ _ _ _ _ _ H1.out _ HI.out hm).mono ?_
  rintro e w' ⟨rfl, rfl⟩
  go_wp2_with fail
  refine (filter_in _ _ _ _ _ _ HI.out hh HT.out).mono ?_
  rintro e w' ⟨rfl, hf, hb⟩
  have HF : Hid (IFun w' w.heap.size w'.heap.size (some ⟨w.heap.size, 0, none⟩) T.length (fun j => (mfL T).getD j 0)) := Lib.hid (hf.wide (Nat.le_refl _) (filt_lt hf (by omega)))
  have HB := Lib.hid hb
  clear hf hb
  go_wp2_with fail
  go_ret2
  exact ⟨_, T.length, by rw [HP.out.1, mfL_len]; exact Nat.le_refl _, by rw [HP.out.1, mfL_len]; rfl, by rw [HP.out.1, mfL_len]; exact HF.out, HB.out⟩
theorem mfilter_impl (A : Option Addr) (C lo hi : Nat) (T : List Int) (w : World) (ht : IFun w lo hi A T.length (fun j => T.getD j 0)) (hh : hi ≤ w.heap.size) (hm : T.length ≤ 1048576) :
    Calls Try.prog 33 #[.slice A T.length C] w (IntsPost (mfR T) (fun j => (mfR T).getD j 0) (trB T) w) :=
  (mfilter_cap A C lo hi T w ht hh hm).mono fun _ _ => ints_cap
end Go.Proofs.Ytjekmmekkfmplaa
