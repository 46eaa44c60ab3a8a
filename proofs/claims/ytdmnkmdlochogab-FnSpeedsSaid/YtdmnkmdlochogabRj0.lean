/-
  Casts that are drawn: contracts of spec.l1Cur.spot, spec.l1Cur.cast over this translation. Conditions: stated at each theorem.
-/
import Derived.Test.YtdmnkmdlochogabDq
import Derived.Test.YtdmnkmdlochogabPerm
import Derived.Test.YtdmnkmdlochogabZj
import Derived.Deep.DeepCutAuto
namespace Go.Proofs.Ytdmnkmdlochogab
open Go.RowKit Go.Sort Go.Deep
set_option linter.unusedVariables false

/-- What spot hands back. -/
def SpotAny (B : Nat) (A : Option Addr) (n c g k : Nat) (w : World) (e : Ending) (w' : World) : Prop :=
  ∃ (x y : Int) (k' : Nat), k ≤ k' ∧ k' ≤ k + 4 ∧ e = .returned (.agg #[.int .i64 x, .int .i64 y]) ∧ Cur B A n c g k' w' ∧ w.grownBy w' (some g)
set_option maxRecDepth 20000 in
theorem spot_any (B : Nat) (A : Option Addr) (n c g k : Nat) (w : World) (h : Cur B A n c g k w) (hk : k < 900000) :
    Calls Try.prog 144 #[.pointer (some ⟨g, 0, none⟩)] w (SpotAny B A n c g k w) := by
  have hgl := h.lt
  have hold := h.old
  have HG0 : Hid (w.grownBy (w.alloc (.cells #[.int .i64 0, .int .i64 0] 61)) (some g)) := Lib.hid (World.grownBy_alloc _ _ _)
  have HZ0 : Hid (Has (w.alloc (.cells #[.int .i64 0, .int .i64 0] 61)) w.heap.size [.int .i64 0, .int .i64 0]) := Lib.hid (by simpa using Has.new w #[.int .i64 0, .int .i64 0] 61)
  have HC0 := Lib.hid (h.alloc (.cells #[.int .i64 0, .int .i64 0] 61))
  clear h
  have HNE := Lib.hid (show some w.heap.size ≠ some g from fun e => by have := Option.some.inj e; omega)
  go_enter Try.func144, Try.ntmps144
  go_wp2_with fail
  refine (among_at AnyI _ _ _ _ _ _ _ 7 [0, 10, 20, 30, 50, 100, 1000] _ HC0.out (by simp) (by omega) (by decide) (by decide) (fun _ _ => trivial)).mono ?_
  rintro e w1 ⟨x, _, rfl, hc, hg⟩
  have HC1 := Lib.hid hc
  have HG1 := Lib.hid (grown_trans HG0.out hg)
  have HZ1 := Lib.hid (has_grown HZ0.out hg HNE.out)
  clear hc hg HC0 HG0 HZ0
  go_wp2_with fail
  refine (among_at AnyI _ _ _ _ _ _ _ 7 [0, 10, 20, 40, 60, 100, 1000] _ HC1.out rfl (by omega) (by decide) (by decide) (fun _ _ => trivial)).mono ?_
  rintro e w2 ⟨y, _, rfl, hc, hg⟩
  have hl2 := HZ1.out.1
  have hl3 := hg.size
  have HC2 := Lib.hid (hc.alloc (.cells #[.int .i64 x, .int .i64 y] 61))
  have HG2 := Lib.hid (grown_trans (grown_trans HG1.out hg) (World.grownBy_alloc w2 (.cells #[.int .i64 x, .int .i64 y] 61) _))
  have HZ2 := Lib.hid ((has_grown HZ1.out hg HNE.out).alloc (.cells #[.int .i64 x, .int .i64 y] 61))
  have HX2 : Hid (Has (w2.alloc (.cells #[.int .i64 x, .int .i64 y] 61)) w2.heap.size [.int .i64 x, .int .i64 y]) := Lib.hid (by simpa using Has.new w2 #[.int .i64 x, .int .i64 y] 61)
  have hlt2 : w.heap.size < w2.heap.size := by omega
  have HN2 := Lib.hid (show some w2.heap.size ≠ some g from fun e => by have := Option.some.inj e; omega)
  clear hc hg HC1 HG1 HZ1 hl2 hl3
  obtain ⟨W2, hW2⟩ : ∃ W, W = w2.alloc (.cells #[.int .i64 x, .int .i64 y] 61) := ⟨_, rfl⟩
  rw [← hW2] at HC2 HG2 HZ2 HX2
  have HE := Lib.hid hW2
  clear hW2
  go_upto_region 2 with fail
  rw [← HE.out]
  go_wp2_with fail
  refine (one_any _ _ _ _ _ _ 48 _ HC2.out (by omega) (by decide) (by decide)).mono ?_
  rintro e w3 ⟨q, rfl, hc, hg⟩
  have HC3 := Lib.hid hc
  have HG3 := Lib.hid (grown_trans HG2.out hg)
  have HZ3 := Lib.hid (has_grown HZ2.out hg HNE.out)
  have HX3 := Lib.hid (has_grown HX2.out hg HN2.out)
  clear hc hg HC2 HG2 HZ2 HX2 HE
  rcases q with _ | _
  · have b0 := HX3.out.at_ 0 _ rfl
    have b1 := HX3.out.at_ 1 _ rfl
    have z0 := HZ3.out.at_ 0 _ rfl
    have z1 := HZ3.out.at_ 1 _ rfl
    have f0 := HZ3.out.free 0
    have f1 := HZ3.out.free 1
    have r := (HZ3.out.set 0 (.int .i64 x)).set 1 (.int .i64 y)
    have r0 := r.at_ 0 _ rfl
    have r1 := r.at_ 1 _ rfl
    have HFC := Lib.hid ((HC3.out.set (gb := w.heap.size) (by omega) (by omega) 0 (.int .i64 x)).set (gb := w.heap.size) (by omega) (by omega) 1 (.int .i64 y))
    have HFG := Lib.hid (grown_put (grown_put HG3.out (Nat.le_refl w.heap.size) 0 (.int .i64 x)) (Nat.le_refl w.heap.size) 1 (.int .i64 y))
    go_wp2_with fail
    refine bodyPost_ret (v := .agg #[.int .i64 x, .int .i64 y]) (by simp [results, Try.results144, go_sem, r0, r1]) rfl ⟨x, y, _, ?_, ?_, rfl, HFC.out, HFG.out⟩ <;> omega
  · go_wp2_with fail
    refine (among_at AnyI _ _ _ _ _ _ _ 2 [-1, 1001] _ HC3.out rfl (by omega) (by decide) (by decide) (fun _ _ => trivial)).mono ?_
    rintro e w4 ⟨u, _, rfl, hc, hg⟩
    have hB2 : B ≤ w2.heap.size := by omega
    have HX5 := Lib.hid ((has_grown HX3.out hg HN2.out).set 0 (.int .i64 u))
    have HC5 := Lib.hid (hc.set (gb := w2.heap.size) (fun e => by omega) hB2 0 (.int .i64 u))
    have HG5 := Lib.hid (grown_put (grown_trans HG3.out hg) (Nat.le_of_lt hlt2) 0 (.int .i64 u))
    have HZ5 := Lib.hid (has_grown (has_grown HZ3.out hg HNE.out) (set_grown w4 w2.heap.size 0 (.int .i64 u)) (fun e => by have := Option.some.inj e; omega))
    have b0 := (has_grown HX3.out hg HN2.out).at_ 0 _ rfl
    have f0 := (has_grown HX3.out hg HN2.out).free 0
    clear hc hg HC3 HG3 HZ3 HX3
    obtain ⟨W5, hW5⟩ : ∃ W, W = w4.setCell ⟨w2.heap.size, 0, none⟩ (.int .i64 u) := ⟨_, rfl⟩
    rw [← hW5] at HC5 HG5 HZ5 HX5
    have HE := Lib.hid hW5
    clear hW5
    go_upto_region 4 with fail
    rw [← HE.out]
    clear HE b0 f0
    have b0 := HX5.out.at_ 0 _ rfl
    have b1 := HX5.out.at_ 1 _ rfl
    have z0 := HZ5.out.at_ 0 _ rfl
    have z1 := HZ5.out.at_ 1 _ rfl
    have f0 := HZ5.out.free 0
    have f1 := HZ5.out.free 1
    have r := (HZ5.out.set 0 (.int .i64 u)).set 1 (.int .i64 y)
    have r0 := r.at_ 0 _ rfl
    have r1 := r.at_ 1 _ rfl
    have HFC := Lib.hid ((HC5.out.set (gb := w.heap.size) (by omega) (by omega) 0 (.int .i64 u)).set (gb := w.heap.size) (by omega) (by omega) 1 (.int .i64 y))
    have HFG := Lib.hid (grown_put (grown_put HG5.out (Nat.le_refl w.heap.size) 0 (.int .i64 u)) (Nat.le_refl w.heap.size) 1 (.int .i64 y))
    go_wp2_with fail
    refine bodyPost_ret (v := .agg #[.int .i64 u, .int .i64 y]) (by simp [results, Try.results144, go_sem, r0, r1]) rfl ⟨u, y, _, ?_, ?_, rfl, HFC.out, HFG.out⟩ <;> omega

/-! ### cast -/
theorem layK5 {w : World} {g : Nat} {z0 z1 z2 z3 z4 : Value} (h : Has w g [z0, z1, z2, z3, z4]) (a b c d e : Value) : Has (setL w g 0 [a, b, c, d, e]) g [a, b, c, d, e] := ((((h.set 0 a).set 1 b).set 2 c).set 3 d).set 4 e
/-- Where the drawing of a cast stands. -/
structure KA (B : Nat) (A : Option Addr) (n c g : Nat) (w : World) (bb k : Nat) (id tm : Int) (sp : Int × Int) (R : Option Addr) (m cap : Nat) (l : List (Int × Int)) (W : World) : Prop where
  box : Has W bb [.int .i64 id, .int .i64 tm, .int .i64 sp.1, .int .i64 sp.2, .slice R m cap]
  own : W.ownsRow (bb + 1) 140 2 (.slice R m cap) m (cells2 l)
  len : l.length = m
  cur : Cur B A n c g k W
  grown : w.grownBy W (some g)
  res : Has W w.heap.size [.int .i64 0, .int .i64 0, .int .i64 0, .int .i64 0, .slice none 0 0]
  wide : bb + 1 ≤ W.heap.size
  lie : Lie B g bb w.heap.size (bb + 1) w
  low : g < w.heap.size
section
variable {B : Nat} {A : Option Addr} {n c g : Nat} {w : World} {bb k : Nat} {id tm : Int} {sp : Int × Int} {R : Option Addr} {m cap : Nat} {l : List (Int × Int)} {W W' : World}
theorem KA.draw (h : KA B A n c g w bb k id tm sp R m cap l W) {k' : Nat} (hc : Cur B A n c g k' W') (hg : W.grownBy W' (some g)) : KA B A n c g w bb k' id tm sp R m cap l W' :=
  ⟨has_grown h.box hg (fun e => h.lie.ne1 (Option.some.inj e)), own_any h.own hg (fun q e => by have := Option.some.inj e; have := h.lie.gb; omega), h.len, hc, grown_trans h.grown hg, has_grown h.res hg (fun e => h.lie.ne2 (Option.some.inj e)), Nat.le_trans h.wide hg.size, h.lie, h.low⟩
theorem KA.alloc (h : KA B A n c g w bb k id tm sp R m cap l W) (x : Obj) : KA B A n c g w bb k id tm sp R m cap l (W.alloc x) := h.draw (h.cur.alloc x) (World.grownBy_alloc W x _)
/-- A store to the cast's own block. -/
theorem KA.put (h : KA B A n c g w bb k id tm sp R m cap l W) (j : Nat) (u : Value) {id' tm' : Int} {sp' : Int × Int} {R' : Option Addr} {m' cap' : Nat} {l' : List (Int × Int)} (hb : ([.int .i64 id, .int .i64 tm, .int .i64 sp.1, .int .i64 sp.2, .slice R m cap] : List Value).set j u = [.int .i64 id', .int .i64 tm', .int .i64 sp'.1, .int .i64 sp'.2, .slice R' m' cap'])
    (ho : W.ownsRow (bb + 1) 140 2 (.slice R' m' cap') m' (cells2 l')) (hl : l'.length = m') : KA B A n c g w bb k id' tm' sp' R' m' cap' l' (W.setCell ⟨bb, j, none⟩ u) := by
  have hgr := set_grown W bb j u
  exact ⟨by rw [← hb]; exact h.box.set j u, own_any ho hgr (fun q e => by have := Option.some.inj e; omega), hl, h.cur.set h.lie.ne1 h.lie.Bb j u, grown_put h.grown h.lie.w0b j u, has_grown h.res hgr (fun e => h.lie.ne3 (Option.some.inj e)), by have := h.wide; simpa [World.setCell] using this, h.lie, h.low⟩
theorem KA.cells (h : KA B A n c g w bb k id tm sp R m cap l W) : (W.cell? ⟨bb, 0, none⟩ = some (.int .i64 id) ∧ W.cell? ⟨bb, 1, none⟩ = some (.int .i64 tm) ∧ W.cell? ⟨bb, 2, none⟩ = some (.int .i64 sp.1) ∧ W.cell? ⟨bb, 3, none⟩ = some (.int .i64 sp.2) ∧ W.cell? ⟨bb, 4, none⟩ = some (.slice R m cap)) ∧ (∀ j, W.frozen? ⟨bb, j, none⟩ = false) :=
  ⟨⟨h.box.at_ 0 _ rfl, h.box.at_ 1 _ rfl, h.box.at_ 2 _ rfl, h.box.at_ 3 _ rfl, h.box.at_ 4 _ rfl⟩, fun j => h.box.free j⟩
/-- An append to the cast's row, and the store of the longer row. -/
theorem KA.append (h : KA B A n c g w bb k id tm sp R m cap l W) {R' : Option Addr} {cap' : Nat} {x y : Int} (ho : W'.ownsRow (bb + 1) 140 2 (.slice R' (m + 1) cap') (m + 1) (cells2 l ++ [.int .i64 x, .int .i64 y])) (hg : W.grownBy W' (Value.slice R m cap).ownBlock) :
    (W'.cell? ⟨bb, 4, none⟩ = some (.slice R m cap) ∧ W'.frozen? ⟨bb, 4, none⟩ = false) ∧ KA B A n c g w bb k id tm sp R' (m + 1) cap' (l ++ [(x, y)]) (W'.setCell ⟨bb, 4, none⟩ (.slice R' (m + 1) cap')) := by
  have hq : ∀ q, (Value.slice R m cap).ownBlock = some q → bb + 1 ≤ q := fun q e => (World.ownsRow.lt h.own q e).1
  have hL := h.lie
  have hgb := hL.gb
  have hbr := hL.brb
  have hw := hL.w0b
  have hb := has_grown h.box hg (fun e => by have := hq _ e.symm; omega)
  have hr := has_grown h.res hg (fun e => by have := hq _ e.symm; omega)
  have hgr := set_grown W' bb 4 (.slice R' (m + 1) cap')
  have hc := h.cur.kept hg (fun e => by have := hq _ e.symm; omega) (fun i e => by have := hq i e; have := hL.Bb; omega)
  have hG : w.grownBy W' (some g) := ⟨hg.os.trans h.grown.os, hg.tape.trans h.grown.tape, hg.output.trans h.grown.output, Nat.le_trans h.grown.size hg.size, fun i hi hne' => (hg.block i (Nat.lt_of_lt_of_le hi h.grown.size) (fun e => by have := hq _ e.symm; omega)).trans (h.grown.block i hi hne')⟩
  refine ⟨⟨hb.at_ 4 _ rfl, hb.free 4⟩, hb.set 4 _, ?_, by rw [List.length_append, h.len]; rfl, hc.set hL.ne1 hL.Bb 4 _, grown_put hG hL.w0b 4 _, has_grown hr hgr (fun e => hL.ne3 (Option.some.inj e)), by have := Nat.le_trans h.wide hg.size; simpa [World.setCell] using this, hL, h.low⟩
  rw [cells2_snoc]
  exact own_any ho hgr (fun q e => by have := Option.some.inj e; omega)
theorem KA.rows (h : KA B A n c g w bb k id tm sp R m cap l W) : Own2 W (bb + 1) W.heap.size R m l := by
  have h2 := h.len
  subst h2
  exact own2_of_row h.own rfl
theorem KA.nil (h : KA B A n c g w bb k id tm sp R m cap l W) : W.ownsRow (bb + 1) 140 2 (.slice R 0 cap) 0 (cells2 []) := by
  refine ⟨rfl, ?_⟩
  rcases h.own.2 with ⟨e, _⟩ | ⟨g', cap', cur, hv, hb, hc, h3, h4, h5, h6⟩
  · injection e with e1 e2 e3
    subst e1 e3
    exact .inl ⟨rfl, rfl⟩
  · injection hv with e1 e2 e3
    subst e1 e3
    exact .inr ⟨g', cap, cur, rfl, hb, hc, Nat.zero_le _, h4, h5, by simp [cells2]⟩
end
/-- The block that the row lies in holds layers, and is not below lo. -/
def TypL (W : World) (lo : Nat) (R : Option Addr) : Prop := ∀ g, R = some ⟨g, 0, none⟩ → lo ≤ g ∧ ∃ cur, W.heap[g]? = some (.cells cur 140 (0, 0))
theorem TypL.of {W : World} {base m cap : Nat} {R : Option Addr} {xs : List Value} (h : W.ownsRow base 140 2 (.slice R m cap) m xs) : TypL W base R := fun g hR => by
  subst hR
  rcases h.2 with ⟨e, _⟩ | ⟨g', cap', cur, hv, hb, hc, _⟩
  · cases e
  · simp only [Value.slice.injEq, Option.some.injEq, Addr.mk.injEq, and_true, true_and] at hv
    obtain ⟨rfl, rfl⟩ := hv
    exact ⟨hb, cur, hc⟩
theorem TypL.keep {W W' : World} {lo : Nat} {R : Option Addr} {r : Option Nat} (h : TypL W lo R) (hg : W.grownBy W' r) (hr : ∀ g, R = some ⟨g, 0, none⟩ → r ≠ some g) : TypL W' lo R := fun g hR => by
  obtain ⟨hl, cur, hc⟩ := h g hR
  exact ⟨hl, cur, (hg.block g (Array.getElem?_eq_some_iff.1 hc).1 (fun e => hr g hR e.symm)).trans hc⟩
theorem TypL.low {W : World} {lo lo' : Nat} {R : Option Addr} (h : TypL W lo R) (hl : lo' ≤ lo) : TypL W lo' R := fun g hR => ⟨Nat.le_trans hl (h g hR).1, (h g hR).2⟩
theorem TypL.set {W : World} {lo : Nat} {R : Option Addr} (h : TypL W lo R) {rg j : Nat} (hR : R = some ⟨rg, 0, none⟩) (u : Value) : TypL (W.setCell ⟨rg, j, none⟩ u) lo R := fun g hg => by
  subst hR
  simp only [Option.some.injEq, Addr.mk.injEq, and_true] at hg
  subst hg
  obtain ⟨hl, cur, hc⟩ := h _ rfl
  exact ⟨hl, _, heap_setCell_same W rg j cur _ u hc⟩
/-- A row of layers of the call's own. -/
def OwnL (W : World) (lo hi : Nat) (R : Option Addr) (n : Nat) (l : List (Int × Int)) : Prop := Own2 W lo hi R n l ∧ TypL W lo R
/-- Where the drawn cast stands at its end: its row is what the loop left, but for one layer. -/
structure KF (B : Nat) (A : Option Addr) (n c g : Nat) (w : World) (bb k : Nat) (id tm : Int) (sp : Int × Int) (R : Option Addr) (m cap : Nat) (l : List (Int × Int)) (W : World) : Prop where
  box : Has W bb [.int .i64 id, .int .i64 tm, .int .i64 sp.1, .int .i64 sp.2, .slice R m cap]
  own : Own2 W (bb + 1) W.heap.size R m l
  typ : TypL W (bb + 1) R
  cur : Cur B A n c g k W
  grown : w.grownBy W (some g)
  res : Has W w.heap.size [.int .i64 0, .int .i64 0, .int .i64 0, .int .i64 0, .slice none 0 0]
  lie : Lie B g bb w.heap.size (bb + 1) w
  low : g < w.heap.size
section
variable {B : Nat} {A : Option Addr} {n c g : Nat} {w : World} {bb k : Nat} {id tm : Int} {sp : Int × Int} {R : Option Addr} {m cap : Nat} {l : List (Int × Int)} {W W' : World}
theorem KA.fin (h : KA B A n c g w bb k id tm sp R m cap l W) : KF B A n c g w bb k id tm sp R m cap l W := ⟨h.box, h.rows, TypL.of h.own, h.cur, h.grown, h.res, h.lie, h.low⟩
theorem KA.set {rg : Nat} (h : KA B A n c g w bb k id tm sp (some ⟨rg, 0, none⟩) m cap l W) {j : Nat} (hj : j < m) (u v : Int) : KF B A n c g w bb k id tm sp (some ⟨rg, 0, none⟩) m cap (l.set j (u, v)) ((W.setCell ⟨rg, j * 2, none⟩ (.int .i64 u)).setCell ⟨rg, j * 2 + 1, none⟩ (.int .i64 v)) := by
  obtain ⟨g', x, y, hA, h1, h2, _⟩ := h.rows.2 j hj
  obtain rfl : rg = g' := by injection hA with h; injection h
  have hL := h.lie
  have hgb := hL.gb
  have hbr := hL.brb
  have hw := hL.w0b
  have hBb := hL.Bb
  have g1 := set_grown W rg (j * 2) (.int .i64 u)
  have g2 := set_grown (W.setCell ⟨rg, j * 2, none⟩ (.int .i64 u)) rg (j * 2 + 1) (.int .i64 v)
  have hne : rg ≠ g := by omega
  refine ⟨has_grown (has_grown h.box g1 (fun e => by have := Option.some.inj e; omega)) g2 (fun e => by have := Option.some.inj e; omega), ?_, ((TypL.of h.own).set rfl _).set rfl _, (h.cur.set hne (by omega) _ _).set hne (by omega) _ _, grown_put (grown_put h.grown (by omega) _ _) (by omega) _ _, has_grown (has_grown h.res g1 (fun e => by have := Option.some.inj e; omega)) g2 (fun e => by have := Option.some.inj e; omega), hL, h.low⟩
  have := own2_setK (a := u) (b := v) h.rows hj
  simpa [World.setCell] using this
theorem KF.cells (h : KF B A n c g w bb k id tm sp R m cap l W) : (W.cell? ⟨bb, 0, none⟩ = some (.int .i64 id) ∧ W.cell? ⟨bb, 1, none⟩ = some (.int .i64 tm) ∧ W.cell? ⟨bb, 2, none⟩ = some (.int .i64 sp.1) ∧ W.cell? ⟨bb, 3, none⟩ = some (.int .i64 sp.2) ∧ W.cell? ⟨bb, 4, none⟩ = some (.slice R m cap)) :=
  ⟨h.box.at_ 0 _ rfl, h.box.at_ 1 _ rfl, h.box.at_ 2 _ rfl, h.box.at_ 3 _ rfl, h.box.at_ 4 _ rfl⟩
theorem KF.zeros (h : KF B A n c g w bb k id tm sp R m cap l W) : (W.cell? ⟨w.heap.size, 0, none⟩ = some (.int .i64 0) ∧ W.cell? ⟨w.heap.size, 1, none⟩ = some (.int .i64 0) ∧ W.cell? ⟨w.heap.size, 2, none⟩ = some (.int .i64 0) ∧ W.cell? ⟨w.heap.size, 3, none⟩ = some (.int .i64 0) ∧ W.cell? ⟨w.heap.size, 4, none⟩ = some (.slice none 0 0)) ∧ (W.frozen? ⟨w.heap.size, 0, none⟩ = false ∧ W.frozen? ⟨w.heap.size, 1, none⟩ = false ∧ W.frozen? ⟨w.heap.size, 2, none⟩ = false ∧ W.frozen? ⟨w.heap.size, 3, none⟩ = false ∧ W.frozen? ⟨w.heap.size, 4, none⟩ = false) :=
  ⟨⟨h.res.at_ 0 _ rfl, h.res.at_ 1 _ rfl, h.res.at_ 2 _ rfl, h.res.at_ 3 _ rfl, h.res.at_ 4 _ rfl⟩, h.res.free 0, h.res.free 1, h.res.free 2, h.res.free 3, h.res.free 4⟩
theorem fin_k (h : KF B A n c g w bb k id tm sp R m cap l W) :
    (((setL W w.heap.size 0 [.int .i64 id, .int .i64 tm, .int .i64 sp.1, .int .i64 sp.2, .slice R m cap]).cell? ⟨w.heap.size, 0, none⟩ = some (.int .i64 id) ∧ (setL W w.heap.size 0 [.int .i64 id, .int .i64 tm, .int .i64 sp.1, .int .i64 sp.2, .slice R m cap]).cell? ⟨w.heap.size, 1, none⟩ = some (.int .i64 tm) ∧ (setL W w.heap.size 0 [.int .i64 id, .int .i64 tm, .int .i64 sp.1, .int .i64 sp.2, .slice R m cap]).cell? ⟨w.heap.size, 2, none⟩ = some (.int .i64 sp.1) ∧ (setL W w.heap.size 0 [.int .i64 id, .int .i64 tm, .int .i64 sp.1, .int .i64 sp.2, .slice R m cap]).cell? ⟨w.heap.size, 3, none⟩ = some (.int .i64 sp.2) ∧ (setL W w.heap.size 0 [.int .i64 id, .int .i64 tm, .int .i64 sp.1, .int .i64 sp.2, .slice R m cap]).cell? ⟨w.heap.size, 4, none⟩ = some (.slice R m cap)) ∧
    OwnL (setL W w.heap.size 0 [.int .i64 id, .int .i64 tm, .int .i64 sp.1, .int .i64 sp.2, .slice R m cap]) w.heap.size (setL W w.heap.size 0 [.int .i64 id, .int .i64 tm, .int .i64 sp.1, .int .i64 sp.2, .slice R m cap]).heap.size R m l ∧ Cur B A n c g k (setL W w.heap.size 0 [.int .i64 id, .int .i64 tm, .int .i64 sp.1, .int .i64 sp.2, .slice R m cap]) ∧ w.grownBy (setL W w.heap.size 0 [.int .i64 id, .int .i64 tm, .int .i64 sp.1, .int .i64 sp.2, .slice R m cap]) (some g)) := by
  have hr := layK5 h.res (.int .i64 id) (.int .i64 tm) (.int .i64 sp.1) (.int .i64 sp.2) (.slice R m cap)
  have hg := setL_grown [.int .i64 id, .int .i64 tm, .int .i64 sp.1, .int .i64 sp.2, .slice R m cap] W w.heap.size 0
  have hL := h.lie
  have hw := hL.w0b
  refine ⟨⟨hr.at_ 0 _ rfl, hr.at_ 1 _ rfl, hr.at_ 2 _ rfl, hr.at_ 3 _ rfl, hr.at_ 4 _ rfl⟩, ?_, h.cur.kept hg (fun e => hL.ne2 (Option.some.inj e).symm) (fun i e => ?_), grown_new h.grown hg (Nat.le_refl _)⟩
  · have hp : ∀ (vs : List Value) (W : World) (q lo hi : Nat), Own2 W lo hi R m l → w.heap.size < lo → Own2 (setL W w.heap.size q vs) lo hi R m l := by
      intro vs
      induction vs with
      | nil => intro W q lo hi h _; exact h
      | cons v vs ih => intro W q lo hi h hlo; exact ih _ _ _ _ (h.put _ _ (.inl hlo)) hlo
    exact ⟨(hp _ W 0 _ _ h.own (by omega)).wide (by omega) hg.size, (h.typ.keep hg (fun g' hR e => by have h1 := (h.typ g' hR).1; have h2 := Option.some.inj e; omega)).low (by omega)⟩
  · have := Option.some.inj e
    have := h.cur.old
    have := h.low
    omega
end
/-- What cast hands back. -/
def CastAny (B : Nat) (A : Option Addr) (n c g k : Nat) (w : World) (e : Ending) (w' : World) : Prop :=
  ∃ (id tm : Int) (sp : Int × Int) (R : Option Addr) (m cap : Nat) (l : List (Int × Int)) (k' : Nat), l.length = m ∧ m ≤ 9 ∧ k' ≤ k + 400 ∧ e = .returned (.agg #[.int .i64 id, .int .i64 tm, .int .i64 sp.1, .int .i64 sp.2, .slice R m cap]) ∧ OwnL w' w.heap.size w'.heap.size R m l ∧ Cur B A n c g k' w' ∧ w.grownBy w' (some g)
/-- The block of the layer that is copied out. -/
def YBox (W : World) (yb : Nat) (p q : Int) : Prop := ∃ fz, W.heap[yb]? = some (.cells #[.int .i64 p, .int .i64 q] 140 fz)
theorem YBox.new (W : World) (p q : Int) : YBox (W.alloc (.cells #[.int .i64 p, .int .i64 q] 140)) W.heap.size p q := ⟨(0, 0), by show (W.heap.push _)[W.heap.size]? = _; simp⟩
theorem YBox.keep {W W' : World} {yb : Nat} {p q : Int} {r : Option Nat} (h : YBox W yb p q) (hg : W.grownBy W' r) (hr : some yb ≠ r) : YBox W' yb p q := by
  obtain ⟨fz, h⟩ := h
  exact ⟨fz, (hg.block yb (Array.getElem?_eq_some_iff.1 h).1 hr).trans h⟩
theorem YBox.lt {W : World} {yb : Nat} {p q : Int} (h : YBox W yb p q) : yb < W.heap.size := by
  obtain ⟨fz, h⟩ := h
  exact (Array.getElem?_eq_some_iff.1 h).1
/-- A row of two layers does not lie in the block of one. -/
theorem YBox.apart {W : World} {yb base m : Nat} {p q : Int} {v : Value} {xs : List Value} (h : YBox W yb p q) (ho : W.ownsRow base 140 2 v m xs) (hm : 2 ≤ m) : v.ownBlock ≠ some yb := by
  obtain ⟨fz, h⟩ := h
  rcases ho.2 with ⟨rfl, e⟩ | ⟨g', cap', cur, rfl, hb, hc, h3, h4, h5, h6⟩
  · omega
  · intro e
    obtain rfl : g' = yb := Option.some.inj e
    rw [h] at hc
    injection hc with hc
    injection hc with h7
    rw [← h7] at h5
    simp at h5
    omega
section
variable {B : Nat} {A : Option Addr} {n c g : Nat} {w : World} {bb k : Nat} {id tm : Int} {sp : Int × Int} {R : Option Addr} {m cap : Nat} {l : List (Int × Int)} {W W' : World}
/-- A store to the copied layer. -/
theorem KA.side (h : KA B A n c g w bb k id tm sp R m cap l W) {yb : Nat} (hb : bb < yb) (hg' : g < yb) (ho : (Value.slice R m cap).ownBlock ≠ some yb) (j : Nat) (u : Value) : KA B A n c g w bb k id tm sp R m cap l (W.setCell ⟨yb, j, none⟩ u) := by
  have hgr := set_grown W yb j u
  have hL := h.lie
  have hw := hL.w0b
  have hBb := hL.Bb
  have hbr := hL.brb
  exact ⟨has_grown h.box hgr (fun e => by have := Option.some.inj e; omega), World.ownsRow.kept h.own hgr (.inr fun e => ho e), h.len, h.cur.set (by omega) (by omega) j u, grown_put h.grown (by omega) j u, has_grown h.res hgr (fun e => by have := Option.some.inj e; omega), by have := h.wide; simpa [World.setCell] using this, hL, h.low⟩
end
end Go.Proofs.Ytdmnkmdlochogab
