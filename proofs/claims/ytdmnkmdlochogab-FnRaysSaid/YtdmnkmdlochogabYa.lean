/-
  Layers that are drawn: contract of spec.l1Cur.strata over this translation. Conditions: stated at each theorem.
-/
import Derived.Test.YtdmnkmdlochogabRc
import Derived.Test.YtdmnkmdlochogabYk
namespace Go.Proofs.Ytdmnkmdlochogab
open Go.RowKit Go.Sort
set_option linter.unusedVariables false

/-- Where the drawing of layers stands: m layers, the reader at k. -/
def SGrow (B : Nat) (A : Option Addr) (n c g : Nat) (w : World) (R : Option Addr) (m cap k : Nat) (W : World) : Prop :=
  ∃ l, l.length = m ∧ W.ownsRow w.heap.size 125 2 (.slice R m cap) m (cells2 l) ∧ Cur B A n c g k W ∧ w.grownBy W (some g) ∧ (g < w.heap.size ∧ R.isSome = true)
theorem sgrow_start {B : Nat} {A : Option Addr} {n c g k : Nat} {w W : World} (h : Cur B A n c g k W) (hg : w.grownBy W (some g)) (hlt : g < w.heap.size) : SGrow B A n c g w (some ⟨W.heap.size, 0, none⟩) 0 0 k (W.alloc (.cells #[] 125)) := by
  refine ⟨[], rfl, ?_, h.alloc _, grown_trans hg (World.grownBy_alloc _ _ _), ⟨hlt, rfl⟩⟩
  exact World.ownsRow_made (base := w.heap.size) (e := 125) (size := 2) W #[] 0 hg.size (by unfold maxLen; omega) (by simp)
theorem SGrow.draw {B : Nat} {A : Option Addr} {n c g k k' m cap : Nat} {w W W' : World} {R : Option Addr} (h : SGrow B A n c g w R m cap k W) (hc : Cur B A n c g k' W') (hg : W.grownBy W' (some g)) : SGrow B A n c g w R m cap k' W' := by
  obtain ⟨l, hl, ho, _, hg0, hlt⟩ := h
  exact ⟨l, hl, own_any ho hg (fun i e => by have := Option.some.inj e; have := hlt.1; omega), hc, grown_trans hg0 hg, hlt⟩
theorem SGrow.cur {B : Nat} {A : Option Addr} {n c g k m cap : Nat} {w W : World} {R : Option Addr} (h : SGrow B A n c g w R m cap k W) : Cur B A n c g k W := by obtain ⟨l, hl, ho, hc, r⟩ := h; exact hc
theorem SGrow.step {B : Nat} {A : Option Addr} {n c g k m cap : Nat} {w W W' : World} {R R' : Option Addr} {cap' : Nat} {x y : Int} {l : List (Int × Int)} (hl : l.length = m) (hc : Cur B A n c g k W) (hg0 : w.grownBy W (some g)) (hlt : g < w.heap.size ∧ R.isSome = true)
    (h0 : W.ownsRow w.heap.size 125 2 (.slice R m cap) m (cells2 l))
    (ho : W'.ownsRow w.heap.size 125 2 (.slice R' (m + 1) cap') (m + 1) (cells2 l ++ [.int .i64 x, .int .i64 y])) (hg : W.grownBy W' (Value.slice R m cap).ownBlock) : SGrow B A n c g w R' (m + 1) cap' k W' := by
  have hb : ∀ j, (Value.slice R m cap).ownBlock = some j → w.heap.size ≤ j := fun j hj => (h0.lt j hj).1
  have hB : B ≤ w.heap.size := by have := hc.old; omega
  refine ⟨l ++ [(x, y)], by simp [hl], by rw [cells2_snoc]; exact ho, hc.kept hg (fun e => by have := hb g e.symm; omega) (fun i e => by have := hb i e; omega), ?_, ⟨hlt.1, ?_⟩⟩
  · exact ⟨hg.os.trans hg0.os, hg.tape.trans hg0.tape, hg.output.trans hg0.output, Nat.le_trans hg0.size hg.size, fun i hi hne => (hg.block i (Nat.lt_of_lt_of_le hi hg0.size) (fun e => by have := hb i e.symm; omega)).trans (hg0.block i hi hne)⟩
  · rcases ho.2 with ⟨_, h3⟩ | ⟨g3, cap3, cur3, hv3, _⟩
    · omega
    · injection hv3 with e3
      rw [e3]; rfl
/-- Layers as they lie when they are drawn. -/
def SLies (B : Nat) (A : Option Addr) (n c g : Nat) (w : World) (R : Option Addr) (l : List (Int × Int)) (cap k : Nat) (W : World) : Prop :=
  Own2 W w.heap.size W.heap.size R l.length l ∧ (l.length ≤ cap ∧ cap ≤ maxLen) ∧ Cur B A n c g k W ∧ w.grownBy W (some g)
theorem slies_of {B : Nat} {A : Option Addr} {n c g k m cap : Nat} {w W : World} {R : Option Addr} (h : SGrow B A n c g w R m cap k W) : ∃ l, l.length = m ∧ SLies B A n c g w R l cap k W := by
  obtain ⟨l, hl, ho, hc, hg, _⟩ := h
  subst hl
  exact ⟨l, rfl, own2_of_row ho rfl, row_cap ho, hc, hg⟩
theorem own2_set0 {w : World} {lo hi n g : Nat} {l : List (Int × Int)} {a b : Int} (h : Own2 w lo hi (some ⟨g, 0, none⟩) n l) (hn : 0 < n) : Own2 ((w.setCell ⟨g, 0, none⟩ (.int .i64 a)).setCell ⟨g, 1, none⟩ (.int .i64 b)) lo hi (some ⟨g, 0, none⟩) n (l.set 0 (a, b)) := by
  refine ⟨by rw [List.length_set]; exact h.1, fun k hk => ?_⟩
  obtain ⟨g', x, y, hA, h1, h2, hl, c0, c1, f0, f1⟩ := h.2 k hk
  obtain rfl : g = g' := by injection hA with h; injection h
  have F : ∀ j, w.frozen? ⟨g, j, none⟩ = false → ((w.setCell ⟨g, 0, none⟩ (.int .i64 a)).setCell ⟨g, 1, none⟩ (.int .i64 b)).frozen? ⟨g, j, none⟩ = false := fun j hj => (World.frozen?_setCell _ _ _ _).trans ((World.frozen?_setCell _ _ _ _).trans hj)
  rcases Nat.eq_zero_or_pos k with e | e
  · subst e
    have hll : 0 < l.length := by have := h.1; omega
    simp only [Nat.zero_mul, Nat.zero_add] at c0 c1 f0 f1 ⊢
    exact ⟨g, a, b, rfl, h1, h2, by simp [hll], (World.cell?_setCell_other _ _ _ _ (by simp)).trans (World.cell?_setCell_same _ _ _ c0), World.cell?_setCell_same _ _ _ ((World.cell?_setCell_other _ _ _ _ (by simp)).trans c1), F _ f0, F _ f1⟩
  · exact ⟨g, x, y, rfl, h1, h2, by rw [List.getElem?_set_ne (by omega)]; exact hl, (World.cell?_setCell_other _ _ _ _ (by simp; try omega)).trans ((World.cell?_setCell_other _ _ _ _ (by simp; try omega)).trans c0), (World.cell?_setCell_other _ _ _ _ (by simp; try omega)).trans ((World.cell?_setCell_other _ _ _ _ (by simp; try omega)).trans c1), F _ f0, F _ f1⟩
theorem size_set2 (w : World) (p q : Addr) (u v : Value) : ((w.setCell p u).setCell q v).heap.size = w.heap.size := by simp [World.setCell]
theorem slies_set {B : Nat} {A : Option Addr} {n c g k cap gb : Nat} {w W : World} {l : List (Int × Int)} {a b : Int} (h : SLies B A n c g w (some ⟨gb, 0, none⟩) l cap k W) (hl : 0 < l.length) (hlt : g < w.heap.size) : SLies B A n c g w (some ⟨gb, 0, none⟩) (l.set 0 (a, b)) cap k ((W.setCell ⟨gb, 0, none⟩ (.int .i64 a)).setCell ⟨gb, 1, none⟩ (.int .i64 b)) := by
  obtain ⟨hO, hc, hC, hg⟩ := h
  obtain ⟨g', x, y, hA, h1, h2, _⟩ := hO.2 0 hl
  obtain rfl : gb = g' := by injection hA with h; injection h
  have hB : B ≤ gb := by have := hC.old; omega
  have hne : gb ≠ g := by omega
  refine ⟨?_, by rw [List.length_set]; exact hc, (hC.set hne hB _ _).set hne hB _ _, grown_put (grown_put hg h1 _ _) h1 _ _⟩
  have := own2_set0 (a := a) (b := b) hO hl
  rw [size_set2, List.length_set]
  exact this
/-- What strata hands back. -/
def StrataPost (B : Nat) (A : Option Addr) (n c g k : Nat) (w : World) (e : Ending) (w' : World) : Prop :=
  ∃ (R : Option Addr) (l : List (Int × Int)) (cap k' : Nat), l.length ≤ 6 ∧ k ≤ k' ∧ k' ≤ k + 40 ∧ e = .returned (.slice R l.length cap) ∧ SLies B A n c g w R l cap k' w'
theorem strata_end {B : Nat} {A : Option Addr} {n c g k k' m cap : Nat} {w W : World} {R : Option Addr} (h : SGrow B A n c g w R m cap k' W) (hm : m ≤ 6) (h1 : k ≤ k') (h2 : k' ≤ k + 40) : StrataPost B A n c g k w (.returned (.slice R m cap)) W := by
  obtain ⟨l, rfl, hs⟩ := slies_of h
  exact ⟨R, l, cap, k', hm, h1, h2, rfl, hs⟩
theorem strata_set {B : Nat} {A : Option Addr} {n c g k k' cap : Nat} {w W : World} {R : Option Addr} {l : List (Int × Int)} {p : Int × Int} (h : SLies B A n c g w R (l.set 0 p) cap k' W) (hm : l.length ≤ 6) (h1 : k ≤ k') (h2 : k' ≤ k + 40) : StrataPost B A n c g k w (.returned (.slice R l.length cap)) W :=
  ⟨R, l.set 0 p, cap, k', by rw [List.length_set]; exact hm, h1, h2, by rw [List.length_set], h⟩
def AnyN (_ : Int) : Prop := True
set_option maxRecDepth 20000 in
set_option maxHeartbeats 6400000 in
theorem strata_any (B : Nat) (A : Option Addr) (n c g k : Nat) (w : World) (h : Cur B A n c g k w) (hk : k < 800000) :
    Calls Try.prog 103 #[.pointer (some ⟨g, 0, none⟩)] w (StrataPost B A n c g k w) := by
  obtain ⟨i0, hi, hz0, hz1, hz2⟩ := info_parts infoStr2
  have HI := Lib.hid (And.intro hi (And.intro hz0 (And.intro hz1 hz2)))
  clear hi hz0 hz1 hz2
  have hgl := h.lt
  have HG0 := Lib.hid (sgrow_start h (show w.grownBy w (some g) from ⟨rfl, rfl, rfl, Nat.le_refl _, fun _ _ _ => rfl⟩) h.lt)
  have HC0 := Lib.hid HG0.out.cur
  clear h
  go_enter Try.func103, Try.ntmps103
  go_wp2_with fail
  refine (pick_any _ _ _ _ _ _ 4 _ HC0.out (by omega) (by decide) (by decide)).mono ?_
  rintro e w1 ⟨v, hv, rfl, hc, hg⟩
  have HG1 := Lib.hid (HG0.out.draw hc hg)
  clear hc hg HC0 HG0
  go_wp2_with fail
  go_loopw [3, 4] (fun s i wr => ∃ (R : Option Addr) (m cap k' r : Nat), m + r ≤ 4 ∧ 1 ≤ m + r ∧ k ≤ k' ∧ k' ≤ k + 1 + 2 * m ∧ s = .slice R m cap ∧ i = .int .i64 r ∧ Hid (SGrow B A n c g w R m cap k' wr)) (fun _ i _ => (intOf i).toNat)
  case atStart => exact ⟨_, 0, _, k + 1, v + 1, by omega, by omega, by omega, by omega, rfl, by go_num, HG1⟩
  case round =>
    obtain ⟨R, m, cap, k', r, hmr, hmr1, hk1, hk2, rfl, rfl, hR⟩ := hrel
    rcases Nat.eq_zero_or_pos r with h0 | h0
    · subst h0
      have HC := Lib.hid hR.out.cur
      go_wp2_with fail
      refine (pick_any _ _ _ _ _ _ 32 _ HC.out (by omega) (by decide) (by decide)).mono ?_
      rintro e w3 ⟨q, hq, rfl, hc, hg⟩
      have HG3 := Lib.hid (hR.out.draw hc hg)
      clear hc hg HC hR
      by_cases hq0 : q = 0
      · subst hq0
        have HC3 := Lib.hid HG3.out.cur
        go_wp2_with fail
        refine (among_at AnyN _ _ _ _ _ _ _ 3 [0, 5001, 1] _ HC3.out rfl (by omega) (by decide) (by decide) (fun _ _ => trivial)).mono ?_
        rintro e w4 ⟨x1, _, rfl, hc, hg⟩
        have HG4 := Lib.hid (HG3.out.draw hc hg)
        have HC4 := Lib.hid hc
        clear hc hg
        go_wp2_with fail
        refine (among_at AnyN _ _ _ _ _ _ _ 3 [1299, 1701, 1500] _ HC4.out rfl (by omega) (by decide) (by decide) (fun _ _ => trivial)).mono ?_
        rintro e w5 ⟨y1, _, rfl, hc, hg⟩
        have HG5 := Lib.hid (HG4.out.draw hc hg)
        clear hc hg HC3 HC4 HG3 HG4
        obtain ⟨l, hl, hs⟩ := slies_of HG5.out
        have hlm : 0 < l.length := by omega
        obtain ⟨gb, x, y, hA, _, _, _, c0, c1, f0, f1⟩ := hs.1.2 0 hlm
        subst hA hl
        simp only [Nat.zero_mul, Nat.zero_add] at c0 c1 f0 f1
        have HS := Lib.hid (slies_set (a := x1) (b := y1) hs hlm hgl)
        clear hs HG5
        have hpos : (0 : Int) < l.length := by omega
        go_wp2_with fail
        go_ret
        exact strata_set HS.out (by omega) (by omega) (by omega)
      have hq0' : ((q : Int) == 0) = false := beq_eq_false_iff_ne.2 (by omega)
      by_cases hq1 : q = 1
      · subst hq1
        go_wp2_with fail
        go_loopw [3] (fun s wr => ∃ (R : Option Addr) (m cap k' : Nat), m ≤ 6 ∧ 1 ≤ m ∧ k ≤ k' ∧ k' ≤ k + 30 + m ∧ s = .slice R m cap ∧ Hid (SGrow B A n c g w R m cap k' wr)) (fun s _ => 6 - lenOfS s)
        case atStart => exact ⟨_, m, _, _, by omega, by omega, by omega, by omega, rfl, HG3⟩
        case round =>
          obtain ⟨R, m, cap, k3, hm13, hm1, hk3, hk4, rfl, hR⟩ := hrel
          have HC := Lib.hid hR.out.cur
          go_wp2_with fail
          refine (pick_any _ _ _ _ _ _ 2 _ HC.out (by omega) (by decide) (by decide)).mono ?_
          rintro e w4 ⟨u, hu, rfl, hc, hg⟩
          have HG5 := Lib.hid (hR.out.draw hc hg)
          clear hc hg HC hR
          by_cases hlt2 : (m : Int) < 5 + u
          · obtain ⟨l, hl, ho, hc, hg, hlt⟩ := HG5.out
            have HC := Lib.hid hc
            have HO := Lib.hid ho
            have HGW := Lib.hid hg
            clear ho hc hg
            go_wp2_with (at_builtin; go_loud (refine wpList_append_own _ rfl _ _ 45 rfl w.heap.size 125 i0 (.agg #[.int .i64 0, .int .i64 0]) 2 16 Try.underlying45 HI.out.1 HI.out.2.1 HI.out.2.2.1 HI.out.2.2.2 rfl (by decide) _ _ _ rfl (HO.out.alloc _) ⟨w4.heap.size, 0, none⟩ 1 1 [.int .i64 10, .int .i64 1400] rfl rfl (two_new _ _ _ _) (by simp [Value.oneCell']) (by unfold maxLen; omega) (by omega) (by have := HGW.out.size; simp; omega) ?_; intro v' w5 hown' hgrow _; obtain ⟨R', cap', rfl⟩ := own_slice hown'; have HN := Lib.hid (SGrow.step hl (HC.out.alloc _) (grown_trans HGW.out (World.grownBy_alloc _ _ _)) hlt (HO.out.alloc _) hown' hgrow); clear hown' hgrow))
            go_roundw
            case rel => exact ⟨R', m + 1, cap', _, by omega, by omega, by omega, by omega, rfl, HN⟩
            case measure => simp [lenOfS]; omega
          · go_wp2_with fail
            go_ret
            exact strata_end HG5.out (by omega) (by omega) (by omega)
      have hq1' : ((q : Int) == 1) = false := beq_eq_false_iff_ne.2 (by omega)
      by_cases hq2 : q = 2
      · subst hq2
        obtain ⟨l, hl, ho, hc, hg, hlt⟩ := HG3.out
        have HN := Lib.hid (sgrow_start hc hg hlt.1)
        clear ho hc hg
        go_wp2_with fail
        go_ret
        exact strata_end HN.out (by omega) (by omega) (by omega)
      have hq2' : ((q : Int) == 2) = false := beq_eq_false_iff_ne.2 (by omega)
      go_wp2_with fail
      go_ret
      exact strata_end HG3.out (by omega) (by omega) (by omega)
    · have HC := Lib.hid hR.out.cur
      go_wp2_with fail
      refine (among_at AnyN _ _ _ _ _ _ _ 5 [1, 100, 250, 600, 5000] _ HC.out rfl (by omega) (by decide) (by decide) (fun _ _ => trivial)).mono ?_
      rintro e w4 ⟨x1, _, rfl, hc, hg⟩
      have HG4 := Lib.hid (hR.out.draw hc hg)
      have HC4 := Lib.hid hc
      clear hc hg
      go_wp2_with fail
      refine (among_at AnyN _ _ _ _ _ _ _ 6 [1300, 1450, 1480, 1500, 1500, 1700] _ HC4.out rfl (by omega) (by decide) (by decide) (fun _ _ => trivial)).mono ?_
      rintro e w6 ⟨y1, _, rfl, hc, hg⟩
      have HG6 := Lib.hid (HG4.out.draw hc hg)
      clear hc hg HC HC4 HG4 hR
      obtain ⟨l, hl, ho, hc, hg, hlt⟩ := HG6.out
      have HC := Lib.hid hc
      have HO := Lib.hid ho
      have HGW := Lib.hid hg
      clear ho hc hg
      go_wp2_with (at_builtin; go_loud (refine wpList_append_own _ rfl _ _ 45 rfl w.heap.size 125 i0 (.agg #[.int .i64 0, .int .i64 0]) 2 16 Try.underlying45 HI.out.1 HI.out.2.1 HI.out.2.2.1 HI.out.2.2.2 rfl (by decide) _ _ _ rfl (HO.out.alloc _) ⟨w6.heap.size, 0, none⟩ 1 1 [.int .i64 x1, .int .i64 y1] rfl rfl (two_new _ _ _ _) (by simp [Value.oneCell']) (by unfold maxLen; omega) (by omega) (by have := HGW.out.size; simp; omega) ?_; intro v' w5 hown' hgrow _; obtain ⟨R', cap', rfl⟩ := own_slice hown'; have HN := Lib.hid (SGrow.step hl (HC.out.alloc _) (grown_trans HGW.out (World.grownBy_alloc _ _ _)) hlt (HO.out.alloc _) hown' hgrow); clear hown' hgrow))
      go_wp2_with fail
      go_roundw
      case rel => exact ⟨R', m + 1, cap', _, r - 1, by omega, by omega, by omega, by omega, rfl, by go_num, HN⟩
      case measure => simp [intOf]; omega
end Go.Proofs.Ytdmnkmdlochogab
