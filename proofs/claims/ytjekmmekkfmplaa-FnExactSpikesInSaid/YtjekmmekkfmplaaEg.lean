/-
  Spikes, the program: contract of impl.SpikesIn over this translation. Conditions: stated at each theorem.
-/
import Derived.Test.YtjekmmekkfmplaaEq
import Derived.Test.YtjekmmekkfmplaaEk
namespace Go.Proofs.Ytjekmmekkfmplaa
open Go.RowKit Go.Shelf
set_option linter.unusedVariables false
attribute [local go_sem] Oper.semAt_some

/-! ### The two rows, place by place -/
def upF (T : List Int) (l : Int) (xs : List Nat) : List Int := (xs.filter fun j => upB T l (j + 1)).map fun (j : Nat) => (j : Int) + 1
def dnF (T : List Int) (l : Int) (xs : List Nat) : List Int := (xs.filter fun j => dnB T l (j + 1)).map fun (j : Nat) => (j : Int) + 1
theorem upF_yes {T : List Int} {l : Int} {j : Nat} (h : upB T l (j + 1) = true) (xs : List Nat) : upF T l (xs ++ [j]) = upF T l xs ++ [(j : Int) + 1] := by simp [upF, List.filter_append, h]
theorem upF_no {T : List Int} {l : Int} {j : Nat} (h : upB T l (j + 1) = false) (xs : List Nat) : upF T l (xs ++ [j]) = upF T l xs := by simp [upF, List.filter_append, h]
theorem dnF_yes {T : List Int} {l : Int} {j : Nat} (h : dnB T l (j + 1) = true) (xs : List Nat) : dnF T l (xs ++ [j]) = dnF T l xs ++ [(j : Int) + 1] := by simp [dnF, List.filter_append, h]
theorem dnF_no {T : List Int} {l : Int} {j : Nat} (h : dnB T l (j + 1) = false) (xs : List Nat) : dnF T l (xs ++ [j]) = dnF T l xs := by simp [dnF, List.filter_append, h]
theorem upF_range (T : List Int) (l : Int) : ∀ k, upF T l (List.range k) = upL T l k
  | 0 => rfl
  | k + 1 => by
    rw [List.range_succ]
    rcases h : upB T l (k + 1) with _ | _
    · rw [upF_no h, upF_range T l k, upL_no h]
    · rw [upF_yes h, upF_range T l k, upL_yes h]
      rfl
theorem dnF_range (T : List Int) (l : Int) : ∀ k, dnF T l (List.range k) = dnL T l k
  | 0 => rfl
  | k + 1 => by
    rw [List.range_succ]
    rcases h : dnB T l (k + 1) with _ | _
    · rw [dnF_no h, dnF_range T l k, dnL_no h]
    · rw [dnF_yes h, dnF_range T l k, dnL_yes h]
      rfl

/-! ### What lies between two rounds -/
def Box3 (W : World) (B : Nat) (x y z : Int) : Prop := W.heap[B]? = some (.cells #[.int .i64 x, .int .i64 y, .int .i64 z] 60)
theorem Box3.not_row {W : World} {B : Nat} {x y z : Int} (h : Box3 W B x y z) {base size k : Nat} {v : Value} {xs : List Value} (hr : W.ownsRow base 3 size v k xs) : some B ≠ v.ownBlock := by
  rcases hr.2 with ⟨rfl, _⟩ | ⟨g, cap, cur, rfl, _, hgb, _⟩
  · simp [Value.ownBlock]
  · intro e'
    obtain rfl : B = g := by simpa [Value.ownBlock] using e'
    have := (show W.heap[B]? = _ from h).symm.trans hgb
    simp at this
theorem Box3.kept {W W' : World} {row : Option Nat} {B : Nat} {x y z : Int} (h : Box3 W B x y z) (hg : W.grownBy W' row) (hne : some B ≠ row) : Box3 W' B x y z := (hg.block B (Array.getElem?_eq_some_iff.1 h).1 hne).trans h
theorem Box3.cells {W : World} {B : Nat} {x y z : Int} (h : Box3 W B x y z) : W.cell? ⟨B, 0, none⟩ = some (.int .i64 x) ∧ W.cell? ⟨B, 1, none⟩ = some (.int .i64 y) ∧ W.cell? ⟨B, 2, none⟩ = some (.int .i64 z) := by
  refine ⟨?_, ?_, ?_⟩ <;> simp [World.cell?, show W.heap[B]? = _ from h]
theorem Box3.lt {W : World} {B : Nat} {x y z : Int} (h : Box3 W B x y z) : B < W.heap.size := (Array.getElem?_eq_some_iff.1 h).1
/-- Two variables that hold rows of the call's own, in blocks apart. -/
structure TwoB (s a b : Nat) (us vs : List Int) (n m g C g' C' : Nat) (W : World) : Prop where
  bu : Boxed W a 24 (.slice (some ⟨g, 0, none⟩) n C)
  bd : Boxed W b 24 (.slice (some ⟨g', 0, none⟩) m C')
  ru : W.ownsRow s 3 1 (.slice (some ⟨g, 0, none⟩) n C) n (ivs us)
  rd : W.ownsRow s 3 1 (.slice (some ⟨g', 0, none⟩) m C') m (ivs vs)
  ne : g ≠ g'
theorem TwoB.swap {s a b n m g C g' C' : Nat} {us vs : List Int} {W : World} (h : TwoB s a b us vs n m g C g' C' W) : TwoB s b a vs us m n g' C' g C W := ⟨h.bd, h.bu, h.rd, h.ru, h.ne.symm⟩
theorem TwoB.next {s a b n m g C g' C' : Nat} {us vs : List Int} {W W' : World} (h : TwoB s a b us vs n m g C g' C' W) (hb : Below W.heap.size W W') : TwoB s a b us vs n m g C g' C' W' :=
  ⟨boxed_next h.bu hb, boxed_next h.bd hb, own_below h.ru hb, own_below h.rd hb, h.ne⟩
theorem row_keptE {X Y : World} {base T z n g C : Nat} {xs : List Value} {row : Option Nat} (h : X.ownsRow base T z (.slice (some ⟨g, 0, none⟩) n C) n xs) (hg : X.grownBy Y row) (hr : ∀ r, row = some r → ∃ o : Obj, X.heap[r]? = some o ∧ o.isCells = false) : Y.ownsRow base T z (.slice (some ⟨g, 0, none⟩) n C) n xs := by
  refine h.kept hg (.inr fun e' => ?_)
  obtain ⟨o, ho, hc⟩ := hr g e'.symm
  rcases h.2 with ⟨e, _⟩ | ⟨g2, cap, cur, e, _, hgb, _⟩
  · cases e
  · injection e with e1 e2 e3
    injection e1 with e1
    injection e1 with e1
    subst e1
    rw [hgb] at ho
    cases ho
    cases hc
theorem box_keptE {X Y : World} {B : Nat} {t : TypeId} {v : Value} {row : Option Nat} (h : Boxed X B t v) (hg : X.grownBy Y row) (hr : ∀ r, row = some r → ∃ o : Obj, X.heap[r]? = some o ∧ o.isCells = false) : Boxed Y B t v := by
  refine h.kept hg fun e' => ?_
  obtain ⟨o, ho, hc⟩ := hr B e'.symm
  rw [show X.heap[B]? = _ from h] at ho
  cases ho
  cases hc
theorem box3_keptE {X Y : World} {B : Nat} {x y z : Int} {row : Option Nat} (h : Box3 X B x y z) (hg : X.grownBy Y row) (hr : ∀ r, row = some r → ∃ o : Obj, X.heap[r]? = some o ∧ o.isCells = false) : Box3 Y B x y z := by
  refine h.kept hg fun e' => ?_
  obtain ⟨o, ho, hc⟩ := hr B e'.symm
  rw [show X.heap[B]? = _ from h] at ho
  cases ho
  cases hc
theorem twoB_own {β : Type} (s a b : Nat) (us vs : β → List Int) (k : β → Nat) : Own (fun p W => ∃ n m g C g' C', (n ≤ k p ∧ m ≤ k p) ∧ TwoB s a b (us p) (vs p) n m g C g' C' W) := by
  rintro p X Y row ⟨n, m, g, C, g', C', hk, h⟩ hg hr
  exact ⟨n, m, g, C, g', C', hk, box_keptE h.bu hg hr, box_keptE h.bd hg hr, row_keptE h.ru hg hr, row_keptE h.rd hg hr, h.ne⟩
/-- The first row has grown, and its variable holds it. -/
theorem TwoB.grow {s a b n n' m g C g' C' g5 C5 : Nat} {us us' vs : List Int} {W w1 : World} {o : Obj} (h : TwoB s a b us vs n m g C g' C' W) (hab : a ≠ b) (hsa : s ≤ a) (hsW : s ≤ W.heap.size)
    (ho : w1.ownsRow s 3 1 (.slice (some ⟨g5, 0, none⟩) n' C5) n' (ivs us')) (hg : (W.alloc o).grownBy w1 (some g)) (hf : some g5 = some g ∨ some g5 = some (W.alloc o).heap.size) :
    TwoB s a b us' vs n' m g5 C5 g' C' (w1.setCell ⟨a, 0, none⟩ (.slice (some ⟨g5, 0, none⟩) n' C5)) ∧ KeepsOthers W (w1.setCell ⟨a, 0, none⟩ (.slice (some ⟨g5, 0, none⟩) n' C5)) ∧ Below s W (w1.setCell ⟨a, 0, none⟩ (.slice (some ⟨g5, 0, none⟩) n' C5)) := by
  have hte : (24 : TypeId) ≠ 3 := by decide
  obtain ⟨h1, h2, h3, h4, h5⟩ := h.bu.appended hte h.ru hsW hsa ho hg
  have hb9 : some b ≠ some g := h.bd.not_row hte h.ru
  have hg9 : some a ≠ some g' := h.bu.not_row hte h.rd
  have hlt := (h.rd.lt g' rfl).2
  refine ⟨⟨h2, ((h.bd.alloc o).kept hg hb9).other (Ne.symm hab) _, h3, ((h.rd.alloc o).kept hg (.inr (by intro e; exact h.ne (by injection e with e; exact e.symm)))).kept (grownBy_setCell' w1 a _) (.inr (by intro e; exact hg9 e.symm)), ?_⟩, h4, h5⟩
  rcases hf with e | e
  · injection e with e; rw [e]; exact h.ne
  · injection e with e; rw [e, World.size_alloc]; omega
theorem keep_grown {W w1 : World} {o : Obj} {g a B : Nat} {t : TypeId} {v u : Value} (hv : Boxed W B t v) (hg : (W.alloc o).grownBy w1 (some g)) (h1 : B ≠ g) (h2 : B ≠ a) : Boxed (w1.setCell ⟨a, 0, none⟩ u) B t v :=
  ((hv.alloc o).kept hg (by intro e; injection e with e; exact h1 e)).other h2 _
theorem keep3_grown {W w1 : World} {o : Obj} {g a B : Nat} {x y z : Int} {u : Value} (hv : Box3 W B x y z) (hg : (W.alloc o).grownBy w1 (some g)) (h1 : B ≠ g) (h2 : B ≠ a) : Box3 (w1.setCell ⟨a, 0, none⟩ u) B x y z :=
  ((hv.kept (World.grownBy_alloc W o none) (by simp)).kept hg (by intro e; injection e with e; exact h1 e)).kept (grownBy_setCell' w1 a _) (by intro e; injection e with e; exact h2 e)
theorem box3_app {W w1 : World} {o : Obj} {g n C B s : Nat} {x y z : Int} {xs : List Value} (h : Box3 W B x y z) (ru : W.ownsRow s 3 1 (.slice (some ⟨g, 0, none⟩) n C) n xs) (hg : (W.alloc o).grownBy w1 (Value.ownBlock (.slice (some ⟨g, 0, none⟩) n C))) : Box3 w1 B x y z :=
  (h.kept (World.grownBy_alloc W o none) (by simp)).kept hg (h.not_row ru)
theorem boxl_app {W w1 : World} {o : Obj} {g n C B s : Nat} {t : TypeId} {v : Value} {xs : List Value} (h : Boxed W B t v) (ru : W.ownsRow s 3 1 (.slice (some ⟨g, 0, none⟩) n C) n xs) (hB : B < s) (hg : (W.alloc o).grownBy w1 (Value.ownBlock (.slice (some ⟨g, 0, none⟩) n C))) : Boxed w1 B t v :=
  (h.alloc o).kept hg (by
    have h1 := (ru.lt g rfl).1
    intro e
    have e2 : B = g := Option.some.inj e
    omega)
theorem TwoE.base {w w1 wr : World} {u v : Value} {n m : Nat} {xs ys : List Int} (h : TwoE w1 u v n m xs ys wr) (hb : Below w.heap.size w w1) : TwoE w u v n m xs ys wr :=
  ⟨⟨own_base h.up.1 hb.size, hb.trans (h.up.2.mono hb.size)⟩, ⟨own_base h.dn.1 hb.size, hb.trans (h.up.2.mono hb.size)⟩, h.ne⟩
theorem sk_base {T : List Int} {l : Int} {w w1 w' : World} {e : Ending} (h : SkPost T l w1 e w') (hb : Below w.heap.size w w1) : SkPost T l w e w' := by
  obtain ⟨g, n, C, g', m, C', he, ht⟩ := h
  exact ⟨g, n, C, g', m, C', he, ht.base hb⟩
set_option maxRecDepth 100000 in
set_option maxHeartbeats 12800000 in
theorem spikesIn_impl (A : Option Addr) (C0 lo hi : Nat) (T : List Int) (l : Int) (w : World) (ht : IFun w lo hi A T.length (fun j => T.getD j 0)) (hh : hi ≤ w.heap.size) (hm : T.length ≤ 1048576) :
    Calls Try.prog 17 #[.slice A T.length C0, .int .i64 l] w (SkPost T l w) := by
  have hbx : Below w.heap.size w (w.alloc (.cells #[.int .i64 l] 3)) := (Below.refl _ _).alloc (Nat.le_refl _) _
  rcases h2 : trB T with _ | _
  · have HI := Lib.hid (ht.on hbx hh)
    have H1 := Lib.hid h2
    have HP := Lib.hid (sk_base (sk_no (w := w.alloc (.cells #[.int .i64 l] 3)) (ak_1 (l := l) h2)) hbx)
    clear h2 ht
    simp only [World.size_alloc] at HP
    refine (callsIn_wide (n := 9)).1 ?_
    refine callsIn_of_wp_marks Try.func17 rfl trivial ?_ rfl
    simp only [Try.ntmps17, List.size_toArray, List.length_cons, List.length_nil, Nat.reduceAdd, Nat.reduceSub, Array.replicate_succ, Array.replicate_zero, List.push_toArray, List.append_toArray, List.nil_append, List.cons_append]
    refine wpIn_wide.2 ?_
    go_wp2_with fail
    refine (isTrE_impl _ _ _ _ _ _ H1.out _ HI.out hm).mono ?_
    rintro e w' ⟨rfl, rfl⟩
    go_wp2_with fail
    exact ⟨.tuple #[.slice (some ⟨w.heap.size + 1, 0, none⟩) 0 0, .slice (some ⟨w.heap.size + 1 + 1, 0, none⟩) 0 0, .bool false], by rw [results_tmp3 rfl]; rfl, HP.out⟩
  rcases h3 : lmB l with _ | _
  · have HI := Lib.hid (ht.on hbx hh)
    have H1 := Lib.hid h2
    have H2 := Lib.hid h3
    have HP := Lib.hid (sk_base (sk_no (w := w.alloc (.cells #[.int .i64 l] 3)) (ak_2 (T := T) h3)) hbx)
    clear h2 h3 ht
    simp only [World.size_alloc] at HP
    refine (callsIn_wide (n := 9)).1 ?_
    refine callsIn_of_wp_marks Try.func17 rfl trivial ?_ rfl
    simp only [Try.ntmps17, List.size_toArray, List.length_cons, List.length_nil, Nat.reduceAdd, Nat.reduceSub, Array.replicate_succ, Array.replicate_zero, List.push_toArray, List.append_toArray, List.nil_append, List.cons_append]
    refine wpIn_wide.2 ?_
    go_wp2_with fail
    refine (isTrE_impl _ _ _ _ _ _ H1.out _ HI.out hm).mono ?_
    rintro e w' ⟨rfl, rfl⟩
    go_wp2_with fail
    refine (limE_impl _ _ H2.out _).mono ?_
    rintro e w' ⟨rfl, rfl⟩
    go_wp2_with fail
    exact ⟨.tuple #[.slice (some ⟨w.heap.size + 1, 0, none⟩) 0 0, .slice (some ⟨w.heap.size + 1 + 1, 0, none⟩) 0 0, .bool false], by rw [results_tmp3 rfl]; rfl, HP.out⟩
  have h1 := ak_3 h2 h3
  have HA := Lib.hid h1
  have HT := Lib.hid (ak_is h1).1.one
  have h03 := (ak_is h1).1.lo
  have h30 := (ak_is h1).1.hi
  have hl1 := (ak_is h1).2.1
  have hl2 := (ak_is h1).2.2
  have HI := Lib.hid (ht.on hbx hh)
  have H1 := Lib.hid h2
  have H2 := Lib.hid h3
  have HT0 := Lib.hid ht
  clear h1 h2 h3 ht
  obtain ⟨i0, hi0, hz0, hz1, hz2⟩ := info_parts info3
  refine (callsIn_wide (n := 9)).1 ?_
  refine callsIn_of_wp_marks Try.func17 rfl trivial ?_ rfl
  simp only [Try.ntmps17, List.size_toArray, List.length_cons, List.length_nil, Nat.reduceAdd, Nat.reduceSub, Array.replicate_succ, Array.replicate_zero, List.push_toArray, List.append_toArray, List.nil_append, List.cons_append]
  refine wpIn_wide.2 ?_
  go_wp2_with fail
  refine (isTrE_impl _ _ _ _ _ _ H1.out _ HI.out hm).mono ?_
  rintro e w' ⟨rfl, rfl⟩
  go_wp2_with fail
  refine (limE_impl _ _ H2.out _).mono ?_
  rintro e w' ⟨rfl, rfl⟩
  go_wp2_with fail
  refine (inners_in _ _ _ _).mono ?_
  rintro e w' ⟨rfl, rfl⟩
  go_wp2_with fail
  refine (wpIn_wide (n := 9)).1 ?_
  have hst := two_startE' (w.alloc (.cells #[.int .i64 l] 3))
  have bL : Boxed ((((((w.alloc (.cells #[.int .i64 l] 3)).alloc (.cells #[] 3)).alloc (.cells #[] 3)).alloc (.cells #[.slice (some ⟨w.heap.size + 1, 0, none⟩) 0 0] 24)).alloc (.cells #[.slice (some ⟨w.heap.size + 1 + 1, 0, none⟩) 0 0] 24)).alloc (.cells #[.slice A T.length C0] 24)) w.heap.size 3 (.int .i64 l) := (((((Boxed.new w 3 (.int .i64 l)).alloc (.cells #[] 3)).alloc (.cells #[] 3)).alloc _).alloc _).alloc _
  have bU := ((Boxed.new (((w.alloc (.cells #[.int .i64 l] 3)).alloc (.cells #[] 3)).alloc (.cells #[] 3)) 24 (.slice (some ⟨w.heap.size + 1, 0, none⟩) 0 0)).alloc (.cells #[.slice (some ⟨w.heap.size + 1 + 1, 0, none⟩) 0 0] 24)).alloc (.cells #[.slice A T.length C0] 24)
  have bD := (Boxed.new ((((w.alloc (.cells #[.int .i64 l] 3)).alloc (.cells #[] 3)).alloc (.cells #[] 3)).alloc (.cells #[.slice (some ⟨w.heap.size + 1, 0, none⟩) 0 0] 24)) 24 (.slice (some ⟨w.heap.size + 1 + 1, 0, none⟩) 0 0)).alloc (.cells #[.slice A T.length C0] 24)
  have bI := Boxed.new (((((w.alloc (.cells #[.int .i64 l] 3)).alloc (.cells #[] 3)).alloc (.cells #[] 3)).alloc (.cells #[.slice (some ⟨w.heap.size + 1, 0, none⟩) 0 0] 24)).alloc (.cells #[.slice (some ⟨w.heap.size + 1 + 1, 0, none⟩) 0 0] 24)) 24 (.slice A T.length C0)
  have rU := ((hst.up.1.alloc (.cells #[.slice (some ⟨w.heap.size + 1, 0, none⟩) 0 0] 24)).alloc (.cells #[.slice (some ⟨w.heap.size + 1 + 1, 0, none⟩) 0 0] 24)).alloc (.cells #[.slice A T.length C0] 24)
  have rD := ((hst.dn.1.alloc (.cells #[.slice (some ⟨w.heap.size + 1, 0, none⟩) 0 0] 24)).alloc (.cells #[.slice (some ⟨w.heap.size + 1 + 1, 0, none⟩) 0 0] 24)).alloc (.cells #[.slice A T.length C0] 24)
  have hB0 : Below w.heap.size w ((((((w.alloc (.cells #[.int .i64 l] 3)).alloc (.cells #[] 3)).alloc (.cells #[] 3)).alloc (.cells #[.slice (some ⟨w.heap.size + 1, 0, none⟩) 0 0] 24)).alloc (.cells #[.slice (some ⟨w.heap.size + 1 + 1, 0, none⟩) 0 0] 24)).alloc (.cells #[.slice A T.length C0] 24)) := (((((hbx.alloc hbx.size _).alloc (by simp; omega) _).alloc (by simp; omega) _).alloc (by simp; omega) _).alloc (by simp; omega) _)
  have hsz : ((((((w.alloc (.cells #[.int .i64 l] 3)).alloc (.cells #[] 3)).alloc (.cells #[] 3)).alloc (.cells #[.slice (some ⟨w.heap.size + 1, 0, none⟩) 0 0] 24)).alloc (.cells #[.slice (some ⟨w.heap.size + 1 + 1, 0, none⟩) 0 0] 24)).alloc (.cells #[.slice A T.length C0] 24)).heap.size = w.heap.size + 6 := by simp
  simp only [World.size_alloc] at bU bD bI rU rD
  clear hst
  obtain ⟨W0, hW0⟩ : ∃ W0, (((((w.alloc (.cells #[.int .i64 l] 3)).alloc (.cells #[] 3)).alloc (.cells #[] 3)).alloc (.cells #[.slice (some ⟨w.heap.size + 1, 0, none⟩) 0 0] 24)).alloc (.cells #[.slice (some ⟨w.heap.size + 1 + 1, 0, none⟩) 0 0] 24)).alloc (.cells #[.slice A T.length C0] 24) = W0 := ⟨_, rfl⟩
  rw [hW0] at bL bU bD bI rU rD hB0 hsz
  try rw [hW0]
  clear hW0
  refine wpIn_rangeFunc_ownH rfl (by omega) (gf := 81) (lb := #[.pointer (some ⟨w.heap.size + 1 + 1 + 1 + 1 + 1, 0, none⟩)]) rfl trivial (enters_of Try.func81 (by kernel_rfl) rfl)
    (inners_stops (w.heap.size + 1 + 1 + 1 + 1 + 1) w.heap.size lo hi A C0 T h03 (by omega) W0 (by omega) (by omega) bI.cell (HT0.out.on hB0 hh) hh) kpE_t (kpE_b (by omega) (by omega)) (Below.refl _ _) (fun _ => rfl)
    (fun pre W => ((∃ n m g C g' C', (n ≤ pre.length ∧ m ≤ pre.length) ∧ TwoB (w.heap.size + 1) (w.heap.size + 1 + 1 + 1) (w.heap.size + 1 + 1 + 1 + 1) (upF T l (pre.map Fin.val)) (dnF T l (pre.map Fin.val)) n m g C g' C' W) ∧ Boxed W w.heap.size 3 (.int .i64 l) ∧ Boxed W (w.heap.size + 1 + 1 + 1 + 1 + 1) 24 (.slice A T.length C0)) ∧ Below w.heap.size w W)
    (fun _ _ _ => False)
    (OwnFrom.and (OwnFrom.and (Own.from (twoB_own (w.heap.size + 1) (w.heap.size + 1 + 1 + 1) (w.heap.size + 1 + 1 + 1 + 1) (fun pre : List (Fin (T.length - 2)) => upF T l (pre.map Fin.val)) (fun pre => dnF T l (pre.map Fin.val)) (fun pre => pre.length)) _) (OwnFrom.and (Own.from (boxed_own _ _ _) _) (Own.from (boxed_own _ _ _) _))) (ownFrom_below (Nat.le_refl _) (by omega)))
    (fun _ _ _ _ _ hs _ _ => hs)
    ⟨⟨⟨0, 0, _, 0, _, 0, ⟨Nat.le_refl _, Nat.le_refl _⟩, ⟨bU, bD, rU, rD, by omega⟩⟩, bL, bI⟩, hB0⟩
    (fun x a' W => ∃ Bx, w.heap.size + 1 + 1 + 1 + 1 + 1 < Bx ∧ Box3 W Bx (T.getD x.1 0) (T.getD (x.1 + 1) 0) (T.getD (x.1 + 2) 0) ∧ a' = { tmps := #[.slice A T.length C0, .int .i64 l, undef, .pointer (some ⟨w.heap.size, 0, none⟩), .slice none 0 0, .slice none 0 0, .bool false, .pointer (some ⟨w.heap.size + 1 + 1 + 1, 0, none⟩), .pointer (some ⟨w.heap.size + 1 + 1 + 1 + 1, 0, none⟩), .int .i64 ((x.1 : Int) + 1), .pointer (some ⟨Bx, 0, none⟩), .slice A T.length C0, .bool true, .bool false, .bool false, .int .i64 l, .bool true, .bool false, .bool false, undef, undef, .slice (some ⟨w.heap.size + 1, 0, none⟩) 0 0, .slice (some ⟨w.heap.size + 1 + 1, 0, none⟩) 0 0, .slice A T.length C0, .func (.func 81) #[] #[.pointer (some ⟨w.heap.size + 1 + 1 + 1 + 1 + 1, 0, none⟩)], .int .i64 ((x.1 : Int) + 1), .agg #[.int .i64 (T.getD x.1 0), .int .i64 (T.getD (x.1 + 1) 0), .int .i64 (T.getD (x.1 + 2) 0)], undef, undef, undef, undef, undef, undef, undef, undef, undef, undef, undef, undef, undef, undef, undef, undef], defers := [] })
    (fun x a' _ X Y row hs hg hr => by obtain ⟨Bx, h1, h2, h3⟩ := hs; exact ⟨Bx, h1, box3_keptE h2 hg (fun r e => (hr r e).2), h3⟩)
    ?assign ?body ?done ?stop
  case assign =>
    rintro lp pre x W K ⟨⟨⟨n, m, g, C, g', C', hnm, hTB⟩, bL1, bI1⟩, hB1⟩ hK
    gi_wp2
    exact hK _ _ ((KeepsOthers.alloc _ _).from _) ⟨(Below.refl _ W).alloc hB1.size _, Below.heap_alloc W _ _ (bI1.lt)⟩ ⟨⟨⟨n, m, g, C, g', C', hnm, hTB.next ((Below.refl _ W).alloc (Nat.le_refl _) _)⟩, bL1.alloc _, bI1.alloc _⟩, hB1.alloc hB1.size _⟩ ⟨W.heap.size, bI1.lt, World.alloc_heap_new W _, rfl⟩
  case body =>
    rintro lp pre ⟨j, hj⟩ a' W hlp ⟨r, hr⟩ ⟨⟨⟨n, m, g, C, g', C', ⟨hnp, hmp⟩, hTB⟩, bL1, bI1⟩, hB1⟩ ⟨Bx, hBx, bX, rfl⟩ hlt
    dsimp only at bX ⊢
    have hj2 : j + 2 < T.length := by omega
    have hx9 := HT.out j (by omega)
    have hy9 := HT.out (j + 1) (by omega)
    have hz9 := HT.out (j + 2) (by omega)
    have hup := up_eq (T := T) (l := l) (j := j) rfl rfl rfl
    have hdn := dn_eq (T := T) (l := l) (j := j) rfl rfl rfl
    rw [show j + 1 + 1 = j + 2 from rfl] at hup hdn
    obtain ⟨X, hX⟩ : ∃ X, T.getD j 0 = X := ⟨_, rfl⟩
    obtain ⟨Y, hY⟩ : ∃ Y, T.getD (j + 1) 0 = Y := ⟨_, rfl⟩
    obtain ⟨Z, hZ⟩ : ∃ Z, T.getD (j + 2) 0 = Z := ⟨_, rfl⟩
    rw [hX, hY, hZ] at bX hup hdn
    rw [hX] at hx9
    rw [hY] at hy9
    rw [hZ] at hz9
    rw [hX, hY, hZ]
    clear hX hY hZ
    have hxy : (-1000000 ≤ X ∧ X ≤ 1000000) ∧ (-1000000 ≤ Y ∧ Y ≤ 1000000) ∧ (-1000000 ≤ Z ∧ Z ≤ 1000000) := by omega
    obtain ⟨hx8, hy8, hz8⟩ := hxy
    have hd0 : 1 ≤ 9 - 1 - 1 := by omega
    have hte : (24 : TypeId) ≠ 3 := by decide
    have HB1 := Lib.hid hB1
    have HX1 := Lib.hid bX
    have HTB := Lib.hid hTB
    have HBL := Lib.hid (And.intro bL1 bI1)
    have hsW := hB1.size
    have hsW1 : w.heap.size + 1 ≤ W.heap.size := bL1.lt
    obtain ⟨bX0, bX1, bX2⟩ := bX.cells
    have cL := bL1.cell
    have hb5W := bI1.lt
    have hmap : ((pre ++ [(⟨j, hj⟩ : Fin (T.length - 2))]).map Fin.val) = pre.map Fin.val ++ [j] := by simp
    have hlen : (pre ++ [(⟨j, hj⟩ : Fin (T.length - 2))]).length = pre.length + 1 := by simp
    have HM := Lib.hid (And.intro hmap hlen)
    clear hB1 bX hTB bL1 bI1 hmap hlen hx9 hy9 hz9
    rcases hu : upB T l (j + 1) with _ | _
    · have HQU := Lib.hid (upF_no hu (pre.map Fin.val))
      rw [hu] at hup
      have HU := Lib.hid hup.symm
      clear hup hu
      rcases hv : dnB T l (j + 1) with _ | _
      · have HQD := Lib.hid (dnF_no hv (pre.map Fin.val))
        rw [hv] at hdn
        have HD := Lib.hid hdn.symm
        clear hdn hv
        gi_wp2
        refine ⟨trivial, (CallsIn.inRound lp (callsIn_wide.2 (isUp_v X Y Z l false HU.out _ hx8 hy8 hz8))).mono ?_⟩
        rintro e w1 ⟨rfl, hb1⟩
        have HTB2 := Lib.hid (HTB.out.next hb1)
        have HBL2 := Lib.hid (And.intro (boxed_next HBL.out.1 hb1) (boxed_next HBL.out.2 hb1))
        have HX2 : Hid (Box3 w1 Bx X Y Z) := Lib.hid ((hb1.block _ HX1.out.lt).trans HX1.out)
        have HB2 := Lib.hid (bthen HB1.out hb1 HB1.out.size)
        have HK2 := Lib.hid (keepsF_below (B := W0.heap.size) hb1)
        have HE2 := Lib.hid (kpE_next (n₀ := w.heap.size) (Bs := w.heap.size + 1 + 1 + 1 + 1 + 1) hb1 hsW hb5W)
        have hsW2 : w.heap.size + 1 ≤ w1.heap.size := Nat.le_trans hsW1 hb1.size
        have hb5W2 : w.heap.size + 1 + 1 + 1 + 1 + 1 < w1.heap.size := Nat.lt_of_lt_of_le hb5W hb1.size
        obtain ⟨bY0, bY1, bY2⟩ := HX2.out.cells
        have cL2 := HBL2.out.1.cell
        clear hb1 bX0 bX1 bX2 cL
        gi_wp2
        refine ⟨trivial, (CallsIn.inRound lp (callsIn_wide.2 (isDown_v X Y Z l false HD.out _ hx8 hy8 hz8))).mono ?_⟩
        rintro e w2 ⟨rfl, hb2⟩
        have HTB3 := Lib.hid (HTB2.out.next hb2)
        have HBL3 := Lib.hid (And.intro (boxed_next HBL2.out.1 hb2) (boxed_next HBL2.out.2 hb2))
        have HB3 := Lib.hid (bthen HB2.out hb2 HB2.out.size)
        have HK3 := Lib.hid (HK2.out.trans (keepsF_below (B := W0.heap.size) hb2))
        have HE3 := Lib.hid (kpE_t HE2.out (kpE_next (n₀ := w.heap.size) (Bs := w.heap.size + 1 + 1 + 1 + 1 + 1) hb2 (by omega) hb5W2))
        have hsW3 : w.heap.size + 1 ≤ w2.heap.size := Nat.le_trans hsW2 hb2.size
        clear hb2 bY0 bY1 bY2 cL2
        gi_wp2
        refine ⟨HK3.out, HE3.out, ⟨⟨n, m, g, C, g', C', by rw [HM.out.2]; omega, ?_⟩, HBL3.out.1, HBL3.out.2⟩, HB3.out⟩
        rw [HM.out.1, HQU.out, HQD.out]
        exact HTB3.out
      · have HQD := Lib.hid (dnF_yes hv (pre.map Fin.val))
        rw [hv] at hdn
        have HD := Lib.hid hdn.symm
        clear hdn hv
        gi_wp2
        refine ⟨trivial, (CallsIn.inRound lp (callsIn_wide.2 (isUp_v X Y Z l false HU.out _ hx8 hy8 hz8))).mono ?_⟩
        rintro e w1 ⟨rfl, hb1⟩
        have HTB2 := Lib.hid (HTB.out.next hb1)
        have HBL2 := Lib.hid (And.intro (boxed_next HBL.out.1 hb1) (boxed_next HBL.out.2 hb1))
        have HX2 : Hid (Box3 w1 Bx X Y Z) := Lib.hid ((hb1.block _ HX1.out.lt).trans HX1.out)
        have HB2 := Lib.hid (bthen HB1.out hb1 HB1.out.size)
        have HK2 := Lib.hid (keepsF_below (B := W0.heap.size) hb1)
        have HE2 := Lib.hid (kpE_next (n₀ := w.heap.size) (Bs := w.heap.size + 1 + 1 + 1 + 1 + 1) hb1 hsW hb5W)
        have hsW2 : w.heap.size + 1 ≤ w1.heap.size := Nat.le_trans hsW1 hb1.size
        have hb5W2 : w.heap.size + 1 + 1 + 1 + 1 + 1 < w1.heap.size := Nat.lt_of_lt_of_le hb5W hb1.size
        obtain ⟨bY0, bY1, bY2⟩ := HX2.out.cells
        have cL2 := HBL2.out.1.cell
        clear hb1 bX0 bX1 bX2 cL
        gi_wp2
        refine ⟨trivial, (CallsIn.inRound lp (callsIn_wide.2 (isDown_v X Y Z l true HD.out _ hx8 hy8 hz8))).mono ?_⟩
        rintro e w2 ⟨rfl, hb2⟩
        have HTB3 := Lib.hid (HTB2.out.next hb2)
        have HBL3 := Lib.hid (And.intro (boxed_next HBL2.out.1 hb2) (boxed_next HBL2.out.2 hb2))
        have HB3 := Lib.hid (bthen HB2.out hb2 HB2.out.size)
        have HK3 := Lib.hid (HK2.out.trans (keepsF_below (B := W0.heap.size) hb2))
        have HE3 := Lib.hid (kpE_t HE2.out (kpE_next (n₀ := w.heap.size) (Bs := w.heap.size + 1 + 1 + 1 + 1 + 1) hb2 (by omega) hb5W2))
        have hsW3 : w.heap.size + 1 ≤ w2.heap.size := Nat.le_trans hsW2 hb2.size
        clear hb2 bY0 bY1 bY2 cL2
        have cB := (HTB3.out.bd).cell
        gi_wp2_with (gi_at_builtin; go_loud (refine wpListIn_append_own_at _ rfl _ _ 24 rfl (w.heap.size + 1) 3 i0 (.int .i64 0) 1 8 Try.underlying24 hi0 hz0 hz1 hz2 rfl (by decide) _ _ _ rfl (HTB3.out.rd.alloc _) ⟨w2.heap.size, 0, none⟩ 1 1 [.int .i64 ((j : Int) + 1)] rfl rfl (one_newJ _ _ _) (by simp [Value.oneCell']) (by unfold maxLen; omega) (by omega) (by rw [World.size_alloc]; omega) ?_; intro v' w4 hown' hgrow _ hfr; rw [← ivs_snoc] at hown'; obtain ⟨g5, C5, rfl, _, _⟩ := own_capsJ hown'; have hbx4 := ((HTB3.out.bd).alloc _).kept hgrow ((HTB3.out.bd).not_row hte HTB3.out.rd); have hc4 := hbx4.cell; have hf4 := hbx4.frozen; have HG4 := Lib.hid (And.intro hown' (And.intro hgrow hfr)); clear hown' hgrow hfr hbx4))
        obtain ⟨hown', hgrow, hfr⟩ := HG4.out
        obtain ⟨ht5, hko, hbl⟩ := (HTB3.out.swap).grow (by omega) (by omega) (by omega) hown' hgrow hfr
        have HTB5 := Lib.hid ht5.swap
        have hgl := (HTB3.out.rd.lt _ rfl).1
        have HBL5 := Lib.hid (And.intro (keep_grown (a := (w.heap.size + 1 + 1 + 1 + 1)) (u := .slice (some ⟨g5, 0, none⟩) (m + 1) C5) HBL3.out.1 hgrow (by omega) (by omega)) (keep_grown (a := (w.heap.size + 1 + 1 + 1 + 1)) (u := .slice (some ⟨g5, 0, none⟩) (m + 1) C5) HBL3.out.2 hgrow (by have h := HBL3.out.2.not_row hte HTB3.out.rd; intro e; exact h (by rw [e]; rfl)) (by omega)))
        have HB5 := Lib.hid (HB3.out.trans (hbl.mono (Nat.le_succ _)))
        have HK5 := Lib.hid (HK3.out.trans (hko.from W0.heap.size))
        have HE5 : Hid (KpE w.heap.size (w.heap.size + 1 + 1 + 1 + 1 + 1) W _) := Lib.hid (kpE_t HE3.out ⟨hbl.mono (Nat.le_succ _), (show _ = _ from HBL5.out.2).trans (show _ = _ from HBL3.out.2).symm⟩)
        refine ⟨HK5.out, HE5.out, ⟨⟨n, m + 1, g, C, g5, C5, by rw [HM.out.2]; omega, ?_⟩, HBL5.out.1, HBL5.out.2⟩, HB5.out⟩
        rw [HM.out.1, HQU.out, HQD.out]
        exact HTB5.out
    · have hv : dnB T l (j + 1) = false := up_not_dn (by omega) hu
      have HQU := Lib.hid (upF_yes hu (pre.map Fin.val))
      have HQD := Lib.hid (dnF_no hv (pre.map Fin.val))
      rw [hu] at hup
      rw [hv] at hdn
      have HU := Lib.hid hup.symm
      have HD := Lib.hid hdn.symm
      clear hup hdn hu hv
      gi_wp2
      refine ⟨trivial, (CallsIn.inRound lp (callsIn_wide.2 (isUp_v X Y Z l true HU.out _ hx8 hy8 hz8))).mono ?_⟩
      rintro e w1 ⟨rfl, hb1⟩
      have HTB2 := Lib.hid (HTB.out.next hb1)
      have HBL2 := Lib.hid (And.intro (boxed_next HBL.out.1 hb1) (boxed_next HBL.out.2 hb1))
      have HX2 : Hid (Box3 w1 Bx X Y Z) := Lib.hid ((hb1.block _ HX1.out.lt).trans HX1.out)
      have HB2 := Lib.hid (bthen HB1.out hb1 HB1.out.size)
      have HK2 := Lib.hid (keepsF_below (B := W0.heap.size) hb1)
      have HE2 := Lib.hid (kpE_next (n₀ := w.heap.size) (Bs := w.heap.size + 1 + 1 + 1 + 1 + 1) hb1 hsW hb5W)
      have hsW2 : w.heap.size + 1 ≤ w1.heap.size := Nat.le_trans hsW1 hb1.size
      have hb5W2 : w.heap.size + 1 + 1 + 1 + 1 + 1 < w1.heap.size := Nat.lt_of_lt_of_le hb5W hb1.size
      obtain ⟨bY0, bY1, bY2⟩ := HX2.out.cells
      have cL2 := HBL2.out.1.cell
      clear hb1 bX0 bX1 bX2 cL
      have cB := (HTB2.out.bu).cell
      gi_wp2_with (gi_at_builtin; go_loud (refine wpListIn_append_own_at _ rfl _ _ 24 rfl (w.heap.size + 1) 3 i0 (.int .i64 0) 1 8 Try.underlying24 hi0 hz0 hz1 hz2 rfl (by decide) _ _ _ rfl (HTB2.out.ru.alloc _) ⟨w1.heap.size, 0, none⟩ 1 1 [.int .i64 ((j : Int) + 1)] rfl rfl (one_newJ _ _ _) (by simp [Value.oneCell']) (by unfold maxLen; omega) (by omega) (by rw [World.size_alloc]; omega) ?_; intro v' w4 hown' hgrow _ hfr; rw [← ivs_snoc] at hown'; obtain ⟨g5, C5, rfl, _, _⟩ := own_capsJ hown'; have hbx4 := ((HTB2.out.bu).alloc _).kept hgrow ((HTB2.out.bu).not_row hte HTB2.out.ru); have hc4 := hbx4.cell; have hf4 := hbx4.frozen; have HG4 := Lib.hid (And.intro hown' (And.intro hgrow hfr)); clear hown' hgrow hfr hbx4; have bZ4 := box3_app HX2.out HTB2.out.ru HG4.out.2.1; obtain ⟨bV0, bV1, bV2⟩ := bZ4.cells; have cL4 := (boxl_app HBL2.out.1 HTB2.out.ru (Nat.lt_succ_self _) HG4.out.2.1).cell; have hn1 : Bx ≠ w.heap.size + 1 + 1 + 1 := (by omega); clear bZ4))
      obtain ⟨hown', hgrow, hfr⟩ := HG4.out
      obtain ⟨ht5, hko, hbl⟩ := (HTB2.out).grow (by omega) (by omega) (by omega) hown' hgrow hfr
      have HTB5 := Lib.hid ht5
      have hgl := (HTB2.out.ru.lt _ rfl).1
      have HBL5 := Lib.hid (And.intro (keep_grown (a := (w.heap.size + 1 + 1 + 1)) (u := .slice (some ⟨g5, 0, none⟩) (n + 1) C5) HBL2.out.1 hgrow (by omega) (by omega)) (keep_grown (a := (w.heap.size + 1 + 1 + 1)) (u := .slice (some ⟨g5, 0, none⟩) (n + 1) C5) HBL2.out.2 hgrow (by have h := HBL2.out.2.not_row hte HTB2.out.ru; intro e; exact h (by rw [e]; rfl)) (by omega)))
      have HB5 := Lib.hid (HB2.out.trans (hbl.mono (Nat.le_succ _)))
      have HK5 := Lib.hid (HK2.out.trans (hko.from W0.heap.size))
      have HE5 : Hid (KpE w.heap.size (w.heap.size + 1 + 1 + 1 + 1 + 1) W _) := Lib.hid (kpE_t HE2.out ⟨hbl.mono (Nat.le_succ _), (show _ = _ from HBL5.out.2).trans (show _ = _ from HBL2.out.2).symm⟩)
      obtain ⟨w5, hw5⟩ : ∃ w5, w4.setCell ⟨w.heap.size + 1 + 1 + 1, 0, none⟩ (.slice (some ⟨g5, 0, none⟩) (n + 1) C5) = w5 := ⟨_, rfl⟩
      rw [hw5] at HTB5 HBL5 HB5 HK5 HE5
      clear hown' hgrow hfr ht5 hko hbl
      refine ⟨trivial, (CallsIn.inRound lp (callsIn_wide.2 (isDown_v X Y Z l false HD.out _ hx8 hy8 hz8))).mono ?_⟩
      rw [hw5]
      rintro e w6 ⟨rfl, hb6⟩
      have HTB6 := Lib.hid (HTB5.out.next hb6)
      have HBL6 := Lib.hid (And.intro (boxed_next HBL5.out.1 hb6) (boxed_next HBL5.out.2 hb6))
      have HB6 := Lib.hid (bthen HB5.out hb6 HB5.out.size)
      have HK6 := Lib.hid (HK5.out.trans (keepsF_below (B := W0.heap.size) hb6))
      have HE6 := Lib.hid (kpE_t HE5.out (kpE_next (n₀ := w.heap.size) (Bs := w.heap.size + 1 + 1 + 1 + 1 + 1) hb6 HB5.out.size HBL5.out.2.lt))
      clear hb6 bV0 bV1 bV2 cL4 hc4 hf4 hw5
      gi_wp2
      refine ⟨HK6.out, HE6.out, ⟨⟨n + 1, m, g5, C5, g', C', by rw [HM.out.2]; omega, ?_⟩, HBL6.out.1, HBL6.out.2⟩, HB6.out⟩
      rw [HM.out.1, HQU.out, HQD.out]
      exact HTB6.out
  case done =>
    rintro D zs W hD hz ⟨⟨⟨n, m, g, C, g', C', ⟨hnp, hmp⟩, hTB⟩, bL1, bI1⟩, hB1⟩ hK
    rw [hz, upF_range, dnF_range] at hTB
    have hCU : Col w 3 1 (.slice (some ⟨g, 0, none⟩) n C) n (ivs (upS T l)) W := ⟨own_base hTB.ru (Nat.le_succ _), hB1⟩
    have hCD : Col w 3 1 (.slice (some ⟨g', 0, none⟩) m C') m (ivs (dnS T l)) W := ⟨own_base hTB.rd (Nat.le_succ _), hB1⟩
    have HTE : Hid (TwoE w (.slice (some ⟨g, 0, none⟩) n C) (.slice (some ⟨g', 0, none⟩) m C') n m (upS T l) (dnS T l) W) := Lib.hid ⟨hCU, hCD, fun e => hTB.ne (by injection e)⟩
    have cU := hTB.bu.cell
    have cD := hTB.bd.cell
    have HK9 := Lib.hid hK
    clear hTB bL1 bI1 hB1 hK hCU hCD hz hnp hmp
    go_wp2_with fail
    have lc0 := lcell (cU)
    have lc1 := lcell (cD)
    refine region_later (W := W) (by kernel_rfl) (by kernel_rfl) (Below.refl _ _) ?_
    repeat (go_big_quiet_step ((fail)))
    refine wpQuiet_nil ?_
    intro W9 hW1
    have HL : Hid (Below W.heap.size W W9) := by obtain ⟨x, rfl⟩ := hW1; exact Lib.hid x.below
    clear hW1 lc0 lc1
    have HT9 := Lib.hid (HTE.out.next HL.out)
    have hK9 := (keepsF_below (B := 0) HL.out).same D _ (Nat.zero_le _) HK9.out rfl
    have hWD := (Array.getElem?_eq_some_iff.1 HK9.out).1
    have HTF : Hid (TwoE w (.slice (some ⟨g, 0, none⟩) n C) (.slice (some ⟨g', 0, none⟩) m C') n m (upS T l) (dnS T l) (W9.putObj D (.deferred none))) := by
      have hr : ∀ r, some D = some r → ∃ o : Obj, W9.heap[r]? = some o ∧ o.isCells = false := fun r e => by cases e; exact ⟨_, hK9, rfl⟩
      have hbb : Below w.heap.size w (W9.putObj D (.deferred none)) := HT9.out.up.2.trans (belowK_b (w := w) (Nat.le_refl _) W9 D _ _ (by omega) hK9 rfl rfl)
      exact Lib.hid ⟨⟨row_keptE HT9.out.up.1 (grownBy_putObj' _ D (.deferred none)) hr, hbb⟩, ⟨row_keptE HT9.out.dn.1 (grownBy_putObj' _ D (.deferred none)) hr, hbb⟩, HT9.out.ne⟩
    clear cU cD
    go_wp2_with fail
    refine ⟨by simp, .inl ⟨_, _, rfl, run_takeDeferred hK9, ?_⟩⟩
    exact ⟨.tuple #[.slice (some ⟨g, 0, none⟩) n C, .slice (some ⟨g', 0, none⟩) m C', .bool true], by rw [results_tmp3 rfl]; rfl, sk_yes HA.out HTF.out⟩
  case stop =>
    rintro D cc pre W _ _ h _
    exact h.elim
end Go.Proofs.Ytjekmmekkfmplaa
