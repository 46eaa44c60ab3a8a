/-
  Gauges that are drawn: contract of spec.l1Cur.gauge over this translation. Conditions: stated at each theorem.
-/
import Derived.Test.YtdmnkmdlochogaaDj
namespace Go.Proofs.Ytdmnkmdlochogaa
open Go.RowKit Go.Sort

theorem layG {w : World} {g : Nat} {z0 z1 z2 z3 : Value} (h : Has w g [z0, z1, z2, z3]) (a b c d : Value) : Has (setL w g 0 [a, b, c, d]) g [a, b, c, d] := (((h.set 0 a).set 1 b).set 2 c).set 3 d
/-- Where the drawing of a gauge stands. -/
structure GA (B : Nat) (A : Option Addr) (n c g : Nat) (w : World) (bb k : Nat) (id : Int) (nm : ByteArray) (ze : Int) (R : Option Addr) (m cap : Nat) (l : List (Int × Int)) (W : World) : Prop where
  box : Has W bb [.int .i64 id, .string nm, .int .i64 ze, .slice R m cap]
  own : W.ownsRow (bb + 1) 34 2 (.slice R m cap) m (cells2 l)
  len : l.length = m
  cur : Cur B A n c g k W
  grown : w.grownBy W (some g)
  res : Has W w.heap.size [.int .i64 0, .string ⟨#[]⟩, .int .i64 0, .slice none 0 0]
  wide : bb + 1 ≤ W.heap.size
  lie : Lie B g bb w.heap.size (bb + 1) w
  low : g < w.heap.size
section
variable {B : Nat} {A : Option Addr} {n c g : Nat} {w : World} {bb k : Nat} {id : Int} {nm : ByteArray} {ze : Int} {R : Option Addr} {m cap : Nat} {l : List (Int × Int)} {W W' : World}
theorem GA.draw (h : GA B A n c g w bb k id nm ze R m cap l W) {k' : Nat} (hc : Cur B A n c g k' W') (hg : W.grownBy W' (some g)) : GA B A n c g w bb k' id nm ze R m cap l W' :=
  ⟨has_grown h.box hg (fun e => h.lie.ne1 (Option.some.inj e)), own_any h.own hg (fun q e => by have := Option.some.inj e; have := h.lie.gb; omega), h.len, hc, grown_trans h.grown hg, has_grown h.res hg (fun e => h.lie.ne2 (Option.some.inj e)), Nat.le_trans h.wide hg.size, h.lie, h.low⟩
theorem GA.alloc (h : GA B A n c g w bb k id nm ze R m cap l W) (x : Obj) : GA B A n c g w bb k id nm ze R m cap l (W.alloc x) := h.draw (h.cur.alloc x) (World.grownBy_alloc W x _)
/-- A store to the gauge's own block. -/
theorem GA.put (h : GA B A n c g w bb k id nm ze R m cap l W) (j : Nat) (u : Value) {id' : Int} {nm' : ByteArray} {ze' : Int} {R' : Option Addr} {m' cap' : Nat} {l' : List (Int × Int)} (hb : ([.int .i64 id, .string nm, .int .i64 ze, .slice R m cap] : List Value).set j u = [.int .i64 id', .string nm', .int .i64 ze', .slice R' m' cap'])
    (ho : W.ownsRow (bb + 1) 34 2 (.slice R' m' cap') m' (cells2 l')) (hl : l'.length = m') : GA B A n c g w bb k id' nm' ze' R' m' cap' l' (W.setCell ⟨bb, j, none⟩ u) := by
  have hgr := set_grown W bb j u
  exact ⟨by rw [← hb]; exact h.box.set j u, own_any ho hgr (fun q e => by have := Option.some.inj e; omega), hl, h.cur.set h.lie.ne1 h.lie.Bb j u, grown_put h.grown h.lie.w0b j u, has_grown h.res hgr (fun e => h.lie.ne3 (Option.some.inj e)), by have := h.wide; simpa [World.setCell] using this, h.lie, h.low⟩
theorem GA.cells (h : GA B A n c g w bb k id nm ze R m cap l W) : (W.cell? ⟨bb, 0, none⟩ = some (.int .i64 id) ∧ W.cell? ⟨bb, 1, none⟩ = some (.string nm) ∧ W.cell? ⟨bb, 2, none⟩ = some (.int .i64 ze) ∧ W.cell? ⟨bb, 3, none⟩ = some (.slice R m cap)) ∧ (W.frozen? ⟨bb, 0, none⟩ = false ∧ W.frozen? ⟨bb, 1, none⟩ = false ∧ W.frozen? ⟨bb, 2, none⟩ = false ∧ W.frozen? ⟨bb, 3, none⟩ = false) :=
  ⟨⟨h.box.at_ 0 _ rfl, h.box.at_ 1 _ rfl, h.box.at_ 2 _ rfl, h.box.at_ 3 _ rfl⟩, h.box.free 0, h.box.free 1, h.box.free 2, h.box.free 3⟩
theorem GA.zeros (h : GA B A n c g w bb k id nm ze R m cap l W) : (W.cell? ⟨w.heap.size, 0, none⟩ = some (.int .i64 0) ∧ W.cell? ⟨w.heap.size, 1, none⟩ = some (.string ⟨#[]⟩) ∧ W.cell? ⟨w.heap.size, 2, none⟩ = some (.int .i64 0) ∧ W.cell? ⟨w.heap.size, 3, none⟩ = some (.slice none 0 0)) ∧ (W.frozen? ⟨w.heap.size, 0, none⟩ = false ∧ W.frozen? ⟨w.heap.size, 1, none⟩ = false ∧ W.frozen? ⟨w.heap.size, 2, none⟩ = false ∧ W.frozen? ⟨w.heap.size, 3, none⟩ = false) :=
  ⟨⟨h.res.at_ 0 _ rfl, h.res.at_ 1 _ rfl, h.res.at_ 2 _ rfl, h.res.at_ 3 _ rfl⟩, h.res.free 0, h.res.free 1, h.res.free 2, h.res.free 3⟩
/-- An append to the gauge's row, and the store of the longer row. -/
theorem GA.append (h : GA B A n c g w bb k id nm ze R m cap l W) {R' : Option Addr} {cap' : Nat} {x y : Int} (ho : W'.ownsRow (bb + 1) 34 2 (.slice R' (m + 1) cap') (m + 1) (cells2 l ++ [.int .i64 x, .int .i64 y])) (hg : W.grownBy W' (Value.slice R m cap).ownBlock) :
    (W'.cell? ⟨bb, 3, none⟩ = some (.slice R m cap) ∧ W'.frozen? ⟨bb, 3, none⟩ = false) ∧ GA B A n c g w bb k id nm ze R' (m + 1) cap' (l ++ [(x, y)]) (W'.setCell ⟨bb, 3, none⟩ (.slice R' (m + 1) cap')) := by
  have hq : ∀ q, (Value.slice R m cap).ownBlock = some q → bb + 1 ≤ q := fun q e => (World.ownsRow.lt h.own q e).1
  have hL := h.lie
  have hgb := hL.gb
  have hbr := hL.brb
  have hw := hL.w0b
  have hb := has_grown h.box hg (fun e => by have := hq _ e.symm; omega)
  have hr := has_grown h.res hg (fun e => by have := hq _ e.symm; omega)
  have hgr := set_grown W' bb 3 (.slice R' (m + 1) cap')
  have hc := h.cur.kept hg (fun e => by have := hq _ e.symm; omega) (fun i e => by have := hq i e; have := hL.Bb; omega)
  have hG : w.grownBy W' (some g) := ⟨hg.os.trans h.grown.os, hg.tape.trans h.grown.tape, hg.output.trans h.grown.output, Nat.le_trans h.grown.size hg.size, fun i hi hne' => (hg.block i (Nat.lt_of_lt_of_le hi h.grown.size) (fun e => by have := hq _ e.symm; omega)).trans (h.grown.block i hi hne')⟩
  refine ⟨⟨hb.at_ 3 _ rfl, hb.free 3⟩, hb.set 3 _, ?_, by rw [List.length_append, h.len]; rfl, hc.set hL.ne1 hL.Bb 3 _, grown_put hG hL.w0b 3 _, has_grown hr hgr (fun e => hL.ne3 (Option.some.inj e)), by have := Nat.le_trans h.wide hg.size; simpa [World.setCell] using this, hL, h.low⟩
  rw [cells2_snoc]
  exact own_any ho hgr (fun q e => by have := Option.some.inj e; omega)
end
/-- A gauge's row that the call made. -/
def GRow (base : Nat) (l : List (Int × Int)) (v : Value) (W : World) : Prop := W.ownsRow base 34 2 v l.length (cells2 l)
theorem fin_g {B : Nat} {A : Option Addr} {n c g : Nat} {w : World} {bb k : Nat} {id : Int} {nm : ByteArray} {ze : Int} {R : Option Addr} {m cap : Nat} {l : List (Int × Int)} {W : World} (h : GA B A n c g w bb k id nm ze R m cap l W) :
    (((setL W w.heap.size 0 [.int .i64 id, .string nm, .int .i64 ze, .slice R m cap]).cell? ⟨w.heap.size, 0, none⟩ = some (.int .i64 id) ∧ (setL W w.heap.size 0 [.int .i64 id, .string nm, .int .i64 ze, .slice R m cap]).cell? ⟨w.heap.size, 1, none⟩ = some (.string nm) ∧ (setL W w.heap.size 0 [.int .i64 id, .string nm, .int .i64 ze, .slice R m cap]).cell? ⟨w.heap.size, 2, none⟩ = some (.int .i64 ze) ∧ (setL W w.heap.size 0 [.int .i64 id, .string nm, .int .i64 ze, .slice R m cap]).cell? ⟨w.heap.size, 3, none⟩ = some (.slice R m cap)) ∧
    GRow w.heap.size l (.slice R m cap) (setL W w.heap.size 0 [.int .i64 id, .string nm, .int .i64 ze, .slice R m cap]) ∧ Cur B A n c g k (setL W w.heap.size 0 [.int .i64 id, .string nm, .int .i64 ze, .slice R m cap]) ∧ w.grownBy (setL W w.heap.size 0 [.int .i64 id, .string nm, .int .i64 ze, .slice R m cap]) (some g)) := by
  have hr := layG h.res (.int .i64 id) (.string nm) (.int .i64 ze) (.slice R m cap)
  have hg := setL_grown [.int .i64 id, .string nm, .int .i64 ze, .slice R m cap] W w.heap.size 0
  have hL := h.lie
  refine ⟨⟨hr.at_ 0 _ rfl, hr.at_ 1 _ rfl, hr.at_ 2 _ rfl, hr.at_ 3 _ rfl⟩, ?_, h.cur.kept hg (fun e => hL.ne2 (Option.some.inj e).symm) (fun i e => ?_), grown_new h.grown hg (Nat.le_refl _)⟩
  · unfold GRow
    rw [h.len]
    exact own_base (own_any h.own hg (fun q e => by have := Option.some.inj e; have := hL.w0b; omega)) (by have := hL.w0b; omega)
  · have := Option.some.inj e
    have := h.cur.old
    have := h.low
    omega
/-- What gauge hands back. -/
def GaugeAny (B : Nat) (A : Option Addr) (n c g k : Nat) (w : World) (e : Ending) (w' : World) : Prop :=
  ∃ (id : Int) (nm : ByteArray) (ze : Int) (R : Option Addr) (m cap : Nat) (l : List (Int × Int)) (k' : Nat), l.length = m ∧ m ≤ 24 ∧ nm.size ≤ 11 ∧ k' ≤ k + 200 ∧ e = .returned (.agg #[.int .i64 id, .string nm, .int .i64 ze, .slice R m cap]) ∧ GRow w.heap.size l (.slice R m cap) w' ∧ Cur B A n c g k' w' ∧ w.grownBy w' (some g)
def plan6 : List (Option Nat × Kg) := [(some 26, .fld), (some 27, .old), (some 28, .any), (some 29, .ptr), (some 30, .row [-500, 0, 120, 130, 130, 240, 2000]), (some 31, .any), (some 32, .rd), (some 33, .one), (some 34, .app), (some 35, .fld), (none, .any)]
theorem plan6_ok : planG 97 plan6 = true := by kernel_rfl
def plan16 : List (Option Nat × Kg) := [(some 63, .fld), (some 64, .old), (some 65, .ptr), (some 66, .row [-1, 10, 10001]), (some 67, .any), (some 68, .ptr), (some 69, .row [0, -501, 2001]), (some 70, .any), (some 71, .rd), (some 72, .one), (some 73, .app), (some 74, .fld), (none, .any)]
theorem plan16_ok : planG 97 plan16 = true := by kernel_rfl
set_option maxRecDepth 20000 in
set_option maxHeartbeats 6400000 in
theorem gauge_any (B : Nat) (A : Option Addr) (n c g k : Nat) (id : Int) (w : World) (h : Cur B A n c g k w) (hk : k < 800000) :
    Calls Try.prog 150 #[.pointer (some ⟨g, 0, none⟩), .int .i64 id] w (GaugeAny B A n c g k w) := by
  obtain ⟨i0, hi, hz0, hz1, hz2⟩ := info_parts infoReading
  have HI := Lib.hid (And.intro hi (And.intro hz0 (And.intro hz1 hz2)))
  clear hi hz0 hz1 hz2
  have hgl := h.lt
  have HG0 : Hid (w.grownBy (w.alloc (.cells #[.int .i64 0, .string ⟨#[]⟩, .int .i64 0, .slice none 0 0] 26)) (some g)) := Lib.hid (World.grownBy_alloc _ _ _)
  have HZ0 : Hid (Has (w.alloc (.cells #[.int .i64 0, .string ⟨#[]⟩, .int .i64 0, .slice none 0 0] 26)) w.heap.size [.int .i64 0, .string ⟨#[]⟩, .int .i64 0, .slice none 0 0]) := Lib.hid (by simpa using Has.new w #[.int .i64 0, .string ⟨#[]⟩, .int .i64 0, .slice none 0 0] 26)
  have HC0 := Lib.hid (h.alloc (.cells #[.int .i64 0, .string ⟨#[]⟩, .int .i64 0, .slice none 0 0] 26))
  clear h
  have hne : some w.heap.size ≠ some g := fun e => by have := Option.some.inj e; omega
  have HNE := Lib.hid hne
  clear hne
  go_enter Try.func150, Try.ntmps150
  go_wp2_with fail
  refine (of_at 11 _ _ _ _ _ _ _ 5 [⟨#[110, 111, 114, 116, 104]⟩, ⟨#[112, 105, 101, 114]⟩, ⟨#[109, 111, 108, 101]⟩, ⟨#[108, 105, 103, 104, 116]⟩, ⟨#[102, 101, 114, 114, 121]⟩] _ HC0.out (by simp) (by omega) (by decide) (by decide) (by intro x hx; simp only [List.mem_cons, List.not_mem_nil, or_false] at hx; rcases hx with rfl | rfl | rfl | rfl | rfl <;> decide)).mono ?_
  rintro e w1 ⟨nm, hnm, rfl, hc, hg⟩
  have HNM := Lib.hid hnm
  have HC1 := Lib.hid hc
  have HG1 := Lib.hid (grown_trans HG0.out hg)
  have HZ1 := Lib.hid (has_grown HZ0.out hg HNE.out)
  clear hc hg HC0 HG0 HZ0 hnm
  go_wp2_with fail
  refine (among_at AnyI _ _ _ _ _ _ _ 5 [0, -120, 35, 1000, -1000] _ HC1.out rfl (by omega) (by decide) (by decide) (fun _ _ => trivial)).mono ?_
  rintro e w6 ⟨ze, _, rfl, hc, hg⟩
  have HC6 := Lib.hid hc
  have HG6 := Lib.hid (grown_trans HG1.out hg)
  have HZ6 := Lib.hid (has_grown HZ1.out hg HNE.out)
  clear hc hg HC1 HG1 HZ1
  obtain ⟨W0, hW0⟩ : ∃ W0, W0 = w6.alloc (.cells #[.int .i64 id, .string nm, .int .i64 ze, .slice none 0 0] 26) := ⟨_, rfl⟩
  have HE := Lib.hid hW0
  have HA0 : Hid (GA B A n c g w w6.heap.size (k + 1 + 1) id nm ze none 0 0 [] W0) := by
    rw [hW0]
    have h1 := HZ6.out.1
    have h2 := HC6.out.lt
    have h3 := HC6.out.old
    exact Lib.hid ⟨by simpa using Has.new w6 #[.int .i64 id, .string nm, .int .i64 ze, .slice none 0 0] 26, World.ownsRow_nil _ _ _ _, rfl, HC6.out.alloc _, grown_trans HG6.out (World.grownBy_alloc _ _ _), HZ6.out.alloc _, by simp, ⟨by omega, by omega, by omega, by omega, by omega, by omega, by omega, by omega⟩, hgl⟩
  clear hW0 HC6 HG6 HZ6
  go_upto_region 2 with fail
  rw [← HE.out]
  go_wp2_with fail
  refine (among_at AnyI _ _ _ _ _ _ _ 4 [0, 10, 600, 9900] _ HA0.out.cur rfl (by omega) (by decide) (by decide) (fun _ _ => trivial)).mono ?_
  rintro e w2 ⟨tm0, _, rfl, hc, hg⟩
  have HA1 := Lib.hid (HA0.out.draw hc hg)
  clear hc hg HA0 HE
  go_wp2_with fail
  refine (pick_any _ _ _ _ _ _ 8 _ HA1.out.cur (by omega) (by decide) (by decide)).mono ?_
  rintro e w3 ⟨v, hv, rfl, hc, hg⟩
  have HA2 := Lib.hid (HA1.out.draw hc hg)
  clear hc hg HA1
  go_wp2_with fail
  go_loopw [6, 7] (fun tv i wr => ∃ (R : Option Addr) (m cap k' r : Nat) (l : List (Int × Int)) (tm : Int), m + r ≤ 7 ∧ k' + 12 * r ≤ k + 100 ∧ tv = .int .i64 tm ∧ i = .int .i64 r ∧ Hid (GA B A n c g w w6.heap.size k' id nm ze R m cap l wr)) (fun _ i _ => (intOf i).toNat)
  case atStart => exact ⟨none, 0, 0, _, v, [], tm0, by omega, by omega, rfl, rfl, HA2⟩
  case round =>
    clear HA2
    obtain ⟨R, m, cap, k', r, l, tm, hmr, hk2, rfl, rfl, hA⟩ := hrel
    rcases Nat.eq_zero_or_pos r with h0 | h0
    · subst h0
      go_wp2_with fail
      refine (pick_any _ _ _ _ _ _ 60 _ hA.out.cur (by omega) (by decide) (by decide)).mono ?_
      rintro e w4 ⟨q, hq, rfl, hc, hg⟩
      have HA3 := Lib.hid (hA.out.draw hc hg)
      clear hc hg hA
      by_cases hq0 : q = 0
      · subst hq0
        go_wp2_with fail
        refine (among_at AnyI _ _ _ _ _ _ _ 3 [0, 99, 100] _ HA3.out.cur rfl (by omega) (by decide) (by decide) (fun _ _ => trivial)).mono ?_
        rintro e w5 ⟨x, _, rfl, hc, hg⟩
        have HA4 := Lib.hid (HA3.out.draw hc hg)
        clear hc hg HA3
        obtain ⟨⟨b0, _, _, _⟩, fb0, _, _, _⟩ := HA4.out.cells
        obtain ⟨W5, hW5⟩ : ∃ W, W = w5.setCell ⟨w6.heap.size, 0, none⟩ (.int .i64 x) := ⟨_, rfl⟩
        have HA5 : Hid (GA B A n c g w w6.heap.size (k' + 1 + 1) x nm ze R m cap l W5) := by rw [hW5]; exact Lib.hid (HA4.out.put 0 _ rfl HA4.out.own HA4.out.len)
        have HE := Lib.hid hW5
        clear hW5
        go_upto_region 23 with fail
        rw [← HE.out]
        clear HE b0 fb0 HA4
        obtain ⟨⟨a0, a1, a2, a3⟩, _, _, _, _⟩ := HA5.out.cells
        obtain ⟨⟨z0, z1, z2, z3⟩, f0, f1, f2, f3⟩ := HA5.out.zeros
        have HFF := Lib.hid (fin_g HA5.out)
        obtain ⟨⟨r0, r1, r2, r3⟩, _⟩ := HFF.out
        simp only [setL] at r0 r1 r2 r3
        have hlm := HA5.out.len
        go_wp2_with fail
        refine bodyPost_ret (v := .agg #[.int .i64 x, .string nm, .int .i64 ze, .slice R m cap]) (by simp [results, Try.results150, go_sem, r0, r1, r2, r3]) rfl ⟨_, _, _, _, _, _, _, _, hlm, by omega, HNM.out, by omega, rfl, HFF.out.2.1, HFF.out.2.2.1, HFF.out.2.2.2⟩
      have hq0' : ((q : Int) == 0) = false := beq_eq_false_iff_ne.2 (by omega)
      by_cases hq1 : q = 1
      · subst hq1
        go_wp2_with fail
        refine (of_at 11 _ _ _ _ _ _ _ 3 [⟨#[]⟩, ⟨#[65]⟩, ⟨#[97, 98, 99, 100, 101, 102, 103, 104, 105, 106, 107]⟩] _ HA3.out.cur rfl (by omega) (by decide) (by decide) (by intro x hx; simp only [List.mem_cons, List.not_mem_nil, or_false] at hx; rcases hx with rfl | rfl | rfl <;> decide)).mono ?_
        rintro e w5 ⟨x, hx, rfl, hc, hg⟩
        have HX := Lib.hid hx
        have HA4 := Lib.hid (HA3.out.draw hc hg)
        clear hc hg HA3 hx
        obtain ⟨⟨_, b0, _, _⟩, _, fb0, _, _⟩ := HA4.out.cells
        obtain ⟨W5, hW5⟩ : ∃ W, W = w5.setCell ⟨w6.heap.size, 1, none⟩ (.string x) := ⟨_, rfl⟩
        have HA5 : Hid (GA B A n c g w w6.heap.size (k' + 1 + 1) id x ze R m cap l W5) := by rw [hW5]; exact Lib.hid (HA4.out.put 1 _ rfl HA4.out.own HA4.out.len)
        have HE := Lib.hid hW5
        clear hW5
        go_upto_region 23 with fail
        rw [← HE.out]
        clear HE b0 fb0 HA4
        obtain ⟨⟨a0, a1, a2, a3⟩, _, _, _, _⟩ := HA5.out.cells
        obtain ⟨⟨z0, z1, z2, z3⟩, f0, f1, f2, f3⟩ := HA5.out.zeros
        have HFF := Lib.hid (fin_g HA5.out)
        obtain ⟨⟨r0, r1, r2, r3⟩, _⟩ := HFF.out
        simp only [setL] at r0 r1 r2 r3
        have hlm := HA5.out.len
        go_wp2_with fail
        refine bodyPost_ret (v := .agg #[.int .i64 id, .string x, .int .i64 ze, .slice R m cap]) (by simp [results, Try.results150, go_sem, r0, r1, r2, r3]) rfl ⟨_, _, _, _, _, _, _, _, hlm, by omega, HX.out, by omega, rfl, HFF.out.2.1, HFF.out.2.2.1, HFF.out.2.2.2⟩
      have hq1' : ((q : Int) == 1) = false := beq_eq_false_iff_ne.2 (by omega)
      by_cases hq2 : q = 2
      · subst hq2
        go_wp2_with fail
        refine (among_at AnyI _ _ _ _ _ _ _ 2 [-1001, 1001] _ HA3.out.cur rfl (by omega) (by decide) (by decide) (fun _ _ => trivial)).mono ?_
        rintro e w5 ⟨x, _, rfl, hc, hg⟩
        have HA4 := Lib.hid (HA3.out.draw hc hg)
        clear hc hg HA3
        obtain ⟨⟨_, _, b0, _⟩, _, _, fb0, _⟩ := HA4.out.cells
        obtain ⟨W5, hW5⟩ : ∃ W, W = w5.setCell ⟨w6.heap.size, 2, none⟩ (.int .i64 x) := ⟨_, rfl⟩
        have HA5 : Hid (GA B A n c g w w6.heap.size (k' + 1 + 1) id nm x R m cap l W5) := by rw [hW5]; exact Lib.hid (HA4.out.put 2 _ rfl HA4.out.own HA4.out.len)
        have HE := Lib.hid hW5
        clear hW5
        go_upto_region 23 with fail
        rw [← HE.out]
        clear HE b0 fb0 HA4
        obtain ⟨⟨a0, a1, a2, a3⟩, _, _, _, _⟩ := HA5.out.cells
        obtain ⟨⟨z0, z1, z2, z3⟩, f0, f1, f2, f3⟩ := HA5.out.zeros
        have HFF := Lib.hid (fin_g HA5.out)
        obtain ⟨⟨r0, r1, r2, r3⟩, _⟩ := HFF.out
        simp only [setL] at r0 r1 r2 r3
        have hlm := HA5.out.len
        go_wp2_with fail
        refine bodyPost_ret (v := .agg #[.int .i64 id, .string nm, .int .i64 x, .slice R m cap]) (by simp [results, Try.results150, go_sem, r0, r1, r2, r3]) rfl ⟨_, _, _, _, _, _, _, _, hlm, by omega, HNM.out, by omega, rfl, HFF.out.2.1, HFF.out.2.2.1, HFF.out.2.2.2⟩
      have hq2' : ((q : Int) == 2) = false := beq_eq_false_iff_ne.2 (by omega)
      by_cases hq3 : q = 3
      · subst hq3
        have hm : m ≤ 1000 := by omega
        go_upto_region 16 with fail
        have hL := HA3.out.lie
        have hB : B ≤ w6.heap.size + 1 := by have := hL.Bb; omega
        have hw0 : w.heap.size ≤ w6.heap.size + 1 := by have := hL.w0b; omega
        have hlm := HA3.out.len
        have hP := plan16_ok
        refine region_sg (w0 := w) (K0 := (k' + 1) + 13) (plan := plan16) (bb := w6.heap.size) (br := w.heap.size) (base := w6.heap.size + 1) (il := 1) (ia := 10) (ic := 12) (by kernel_rfl) (by kernel_rfl) rfl (by decide) (Nat.le_refl _) HA3.out.cur HA3.out.grown HA3.out.box HA3.out.own HA3.out.res rfl ?_ ?_
        · have hRB : ∀ q, rbk _ _ _ = some q → q < _ := fun q e => (rbk_base HA3.out.own q e).2
          have hbs := HA3.out.wide
          have hK0 : (k' + 1) + 13 ≤ 900000 := by omega
          intro fuel listed a W hS i o ho hf hd
          have hi : i < 13 := (Array.getElem?_eq_some_iff.1 ho).1
          obtain rfl | rfl | rfl | rfl | rfl | rfl | rfl | rfl | rfl | rfl | rfl | rfl | rfl : i = 0 ∨ i = 1 ∨ i = 2 ∨ i = 3 ∨ i = 4 ∨ i = 5 ∨ i = 6 ∨ i = 7 ∨ i = 8 ∨ i = 9 ∨ i = 10 ∨ i = 11 ∨ i = 12 := by omega
          · exact hS.field hP hL ho (d := 63) (t := 5) (by kernel_rfl) rfl rfl rfl (by decide) (by decide)
          · exact hS.load hP hL ho (d := 64) (t := 63) (j := 0) (by kernel_rfl) rfl (dep_of (j := 0) (by kernel_rfl) ho hd) (listed_put hf).2 rfl (by decide) (by decide)
          · exact hS.move hP hL ho (d := 65) (t := 0) (by kernel_rfl) rfl rfl rfl (by decide) (by decide)
          · exact hS.build hP hL ho (d := 66) (xs := [-1, 10, 10001]) (p := .buildSlice 39 3 #[(0, .const (Value.int IntKind.i64 (-1))), (1, .const (.int .i64 10)), (2, .const (.int .i64 10001))]) (by kernel_rfl) (fun o a W ho => by simp [execOp, ho, go_sem]) hRB rfl (by decide) (by decide)
          · exact hS.among hP hL ho (d := 67) (t := 65) (q := 66) (j := 2) (j' := 3) (xs := [-1, 10, 10001]) (by decide) (by decide) hK0 (ts := #[115, 39]) (by kernel_rfl) rfl (dep_of (j := 2) (by kernel_rfl) ho hd) rfl (dep_of (j := 3) (by kernel_rfl) ho hd) rfl (by decide) (by decide)
          · exact hS.move hP hL ho (d := 68) (t := 0) (by kernel_rfl) rfl rfl rfl (by decide) (by decide)
          · exact hS.build hP hL ho (d := 69) (xs := [0, -501, 2001]) (p := .buildSlice 39 3 #[(0, .const (.int .i64 0)), (1, .const (Value.int IntKind.i64 (-501))), (2, .const (.int .i64 2001))]) (by kernel_rfl) (fun o a W ho => by simp [execOp, ho, go_sem]) hRB rfl (by decide) (by decide)
          · exact hS.among hP hL ho (d := 70) (t := 68) (q := 69) (j := 5) (j' := 6) (xs := [0, -501, 2001]) (by decide) (by decide) hK0 (ts := #[115, 39]) (by kernel_rfl) rfl (dep_of (j := 5) (by kernel_rfl) ho hd) rfl (dep_of (j := 6) (by kernel_rfl) ho hd) rfl (by decide) (by decide)
          · exact hS.make hP hL ho (d := 71) (t := 67) (q := 70) (j := 4) (j' := 7) (by kernel_rfl) rfl (dep_of (j := 4) (by kernel_rfl) ho hd) rfl (dep_of (j := 7) (by kernel_rfl) ho hd) rfl (by decide) (by decide)
          · exact hS.one hP hL ho (d := 72) (t := 71) (j := 8) (by kernel_rfl) rfl (dep_of (j := 8) (by kernel_rfl) ho hd) hRB rfl (by decide) (by decide)
          · exact hS.append hP (by kernel_rfl) hL hB hw0 hlm hm ho (by decide) (d := 73) (t := 64) (q := 72) (j' := 9) (by kernel_rfl) rfl (dep_of (j := 1) (by kernel_rfl) ho hd) rfl (dep_of (j := 9) (by kernel_rfl) ho hd) hf rfl hbs (by decide)
          · exact hS.field hP hL ho (d := 74) (t := 5) (by kernel_rfl) rfl rfl rfl (by decide) (by decide)
          · exact hS.store hL ho (by decide) (by decide) (t := 74) (q := 73) (j := 11) (by kernel_rfl) rfl (dep_of (j := 11) (by kernel_rfl) ho hd) rfl (dep_of (j := 10) (by kernel_rfl) ho hd) hf rfl
        · intro vs W4 R' cap' k4 t y hk4 hc hg hb ho hr hw
          have HA4 : Hid (GA B A n c g w w6.heap.size k4 _ _ _ R' _ cap' _ W4) := Lib.hid ⟨hb, ho, by rw [List.length_append, hlm]; rfl, hc, hg, hr, Nat.le_trans HA3.out.wide hw, hL, hgl⟩
          clear hc hg hb ho hr hP hB hw0
          simp only [patch, slotsOf, plan16, List.filterMap_cons, List.filterMap_nil, Option.map_some, Option.map_none, List.foldl_cons, List.foldl_nil, List.set_cons_zero, List.set_cons_succ]
          go_upto_region 23 with fail
          obtain ⟨⟨a0, a1, a2, a3⟩, _, _, _, _⟩ := HA4.out.cells
          obtain ⟨⟨z0, z1, z2, z3⟩, f0, f1, f2, f3⟩ := HA4.out.zeros
          have HFF := Lib.hid (fin_g HA4.out)
          obtain ⟨⟨r0, r1, r2, r3⟩, _⟩ := HFF.out
          simp only [setL] at r0 r1 r2 r3
          have hlm := HA4.out.len
          go_wp2_with fail
          refine bodyPost_ret (v := .agg #[.int .i64 id, .string nm, .int .i64 ze, .slice R' (m + 1) cap']) (by simp [results, Try.results150, go_sem, r0, r1, r2, r3]) rfl ⟨_, _, _, _, _, _, _, _, hlm, by omega, HNM.out, by omega, rfl, HFF.out.2.1, HFF.out.2.2.1, HFF.out.2.2.2⟩
      have hq3' : ((q : Int) == 3) = false := beq_eq_false_iff_ne.2 (by omega)
      by_cases hq4 : q = 4
      · subst hq4
        have hwide := HA3.out.wide
        obtain ⟨⟨_, _, _, b3⟩, _, _, _, fb3⟩ := (HA3.out.alloc (.cells #[] 34)).cells
        have HA5 : Hid (GA B A n c g w w6.heap.size (k' + 1) id nm ze (some ⟨w4.heap.size, 0, none⟩) 0 0 [] ((w4.alloc (.cells #[] 34)).setCell ⟨w6.heap.size, 3, none⟩ (.slice (some ⟨w4.heap.size, 0, none⟩) 0 0))) :=
          Lib.hid ((HA3.out.alloc _).put 3 _ rfl (World.ownsRow_made (base := w6.heap.size + 1) (e := 34) (size := 2) w4 #[] 0 hwide (by unfold maxLen; omega) (by simp)) rfl)
        clear HA3
        go_wp2_with fail
        go_loopw [8] (fun i wr => ∃ (R : Option Addr) (m cap k' : Nat) (l : List (Int × Int)), m ≤ 16 ∧ k' ≤ k + 120 + m ∧ i = .int .i64 m ∧ Hid (GA B A n c g w w6.heap.size k' id nm ze R m cap l wr)) (fun i _ => 17 - (intOf i).toNat)
        case atStart => exact ⟨_, 0, _, _, [], by omega, by omega, rfl, HA5⟩
        case round =>
          clear HA5
          obtain ⟨R, m, cap, k', l, hm16, hk1, rfl, hA⟩ := hrel
          go_wp2_with fail
          refine (pick_any _ _ _ _ _ _ 2 _ hA.out.cur (by omega) (by decide) (by decide)).mono ?_
          rintro e w5 ⟨u, hu, rfl, hc, hg⟩
          have HA3 := Lib.hid (hA.out.draw hc hg)
          clear hc hg hA
          by_cases hlt : (m : Int) < 15 + u
          · obtain ⟨⟨_, _, _, b3⟩, _, _, _, fb3⟩ := HA3.out.cells
            have hwide := HA3.out.wide
            go_wp2_with (at_builtin; go_loud (refine wpList_append_own _ rfl _ _ 24 rfl (w6.heap.size + 1) 34 i0 (.agg #[.int .i64 0, .int .i64 0]) 2 16 Try.underlying24 HI.out.1 HI.out.2.1 HI.out.2.2.1 HI.out.2.2.2 rfl (by decide) _ _ _ rfl (HA3.out.alloc _).own ⟨w5.heap.size, 0, none⟩ 1 1 [.int .i64 _, .int .i64 _] rfl rfl (two_new _ _ _ _) (by simp [Value.oneCell']) (by unfold maxLen; omega) (by omega) (HA3.out.alloc _).wide ?_; intro v' w7 hown' hgrow _; obtain ⟨R', cap', rfl⟩ := own_slice hown'; obtain ⟨⟨b4, fb4⟩, hA4⟩ := (HA3.out.alloc _).append hown' hgrow; have HA4 := Lib.hid hA4; clear hown' hgrow hA4))
            go_roundw
            case rel => exact ⟨R', m + 1, cap', _, _, by omega, by omega, by go_num, HA4⟩
            case measure => simp [intOf]; omega
          · go_upto_region 23 with fail
            obtain ⟨⟨a0, a1, a2, a3⟩, _, _, _, _⟩ := HA3.out.cells
            obtain ⟨⟨z0, z1, z2, z3⟩, f0, f1, f2, f3⟩ := HA3.out.zeros
            have HFF := Lib.hid (fin_g HA3.out)
            obtain ⟨⟨r0, r1, r2, r3⟩, _⟩ := HFF.out
            simp only [setL] at r0 r1 r2 r3
            have hlm := HA3.out.len
            go_wp2_with fail
            refine bodyPost_ret (v := .agg #[.int .i64 id, .string nm, .int .i64 ze, .slice R m cap]) (by simp [results, Try.results150, go_sem, r0, r1, r2, r3]) rfl ⟨_, _, _, _, _, _, _, _, hlm, by omega, HNM.out, by omega, rfl, HFF.out.2.1, HFF.out.2.2.1, HFF.out.2.2.2⟩
      have hq4' : ((q : Int) == 4) = false := beq_eq_false_iff_ne.2 (by omega)
      go_upto_region 23 with fail
      obtain ⟨⟨a0, a1, a2, a3⟩, _, _, _, _⟩ := HA3.out.cells
      obtain ⟨⟨z0, z1, z2, z3⟩, f0, f1, f2, f3⟩ := HA3.out.zeros
      have HFF := Lib.hid (fin_g HA3.out)
      obtain ⟨⟨r0, r1, r2, r3⟩, _⟩ := HFF.out
      simp only [setL] at r0 r1 r2 r3
      have hlm := HA3.out.len
      go_wp2_with fail
      refine bodyPost_ret (v := .agg #[.int .i64 id, .string nm, .int .i64 ze, .slice R m cap]) (by simp [results, Try.results150, go_sem, r0, r1, r2, r3]) rfl ⟨_, _, _, _, _, _, _, _, hlm, by omega, HNM.out, by omega, rfl, HFF.out.2.1, HFF.out.2.2.1, HFF.out.2.2.2⟩
    · have hm : m ≤ 1000 := by omega
      go_upto_region 6 with fail
      have hL := hA.out.lie
      have hB : B ≤ w6.heap.size + 1 := by have := hL.Bb; omega
      have hw0 : w.heap.size ≤ w6.heap.size + 1 := by have := hL.w0b; omega
      have hlm := hA.out.len
      have hP := plan6_ok
      refine region_sg (w0 := w) (K0 := k' + 11) (plan := plan6) (bb := w6.heap.size) (br := w.heap.size) (base := w6.heap.size + 1) (il := 1) (ia := 8) (ic := 10) (by kernel_rfl) (by kernel_rfl) rfl (by decide) (Nat.le_refl _) hA.out.cur hA.out.grown hA.out.box hA.out.own hA.out.res rfl ?_ ?_
      · have hRB : ∀ q, rbk _ _ _ = some q → q < _ := fun q e => (rbk_base hA.out.own q e).2
        have hbs := hA.out.wide
        have hK0 : k' + 11 ≤ 900000 := by omega
        intro fuel listed a W hS i o ho hf hd
        have hi : i < 11 := (Array.getElem?_eq_some_iff.1 ho).1
        obtain rfl | rfl | rfl | rfl | rfl | rfl | rfl | rfl | rfl | rfl | rfl : i = 0 ∨ i = 1 ∨ i = 2 ∨ i = 3 ∨ i = 4 ∨ i = 5 ∨ i = 6 ∨ i = 7 ∨ i = 8 ∨ i = 9 ∨ i = 10 := by omega
        · exact hS.field hP hL ho (d := 26) (t := 5) (by kernel_rfl) rfl rfl rfl (by decide) (by decide)
        · exact hS.load hP hL ho (d := 27) (t := 26) (j := 0) (by kernel_rfl) rfl (dep_of (j := 0) (by kernel_rfl) ho hd) (listed_put hf).2 rfl (by decide) (by decide)
        · exact hS.moveI hP hL ho (d := 28) (t := 6) (by kernel_rfl) rfl rfl rfl (by decide) (by decide)
        · exact hS.move hP hL ho (d := 29) (t := 0) (by kernel_rfl) rfl rfl rfl (by decide) (by decide)
        · exact hS.build hP hL ho (d := 30) (xs := [-500, 0, 120, 130, 130, 240, 2000]) (p := .buildSlice 39 7 #[(0, .const (Value.int IntKind.i64 (-500))), (1, .const (.int .i64 0)), (2, .const (.int .i64 120)), (3, .const (.int .i64 130)), (4, .const (.int .i64 130)), (5, .const (.int .i64 240)), (6, .const (.int .i64 2000))]) (by kernel_rfl) (fun o a W ho => by simp [execOp, ho, go_sem]) hRB rfl (by decide) (by decide)
        · exact hS.among hP hL ho (d := 31) (t := 29) (q := 30) (j := 3) (j' := 4) (xs := [-500, 0, 120, 130, 130, 240, 2000]) (by decide) (by decide) hK0 (ts := #[115, 39]) (by kernel_rfl) rfl (dep_of (j := 3) (by kernel_rfl) ho hd) rfl (dep_of (j := 4) (by kernel_rfl) ho hd) rfl (by decide) (by decide)
        · exact hS.make hP hL ho (d := 32) (t := 28) (q := 31) (j := 2) (j' := 5) (by kernel_rfl) rfl (dep_of (j := 2) (by kernel_rfl) ho hd) rfl (dep_of (j := 5) (by kernel_rfl) ho hd) rfl (by decide) (by decide)
        · exact hS.one hP hL ho (d := 33) (t := 32) (j := 6) (by kernel_rfl) rfl (dep_of (j := 6) (by kernel_rfl) ho hd) hRB rfl (by decide) (by decide)
        · exact hS.append hP (by kernel_rfl) hL hB hw0 hlm hm ho (by decide) (d := 34) (t := 27) (q := 33) (j' := 7) (by kernel_rfl) rfl (dep_of (j := 1) (by kernel_rfl) ho hd) rfl (dep_of (j := 7) (by kernel_rfl) ho hd) hf rfl hbs (by decide)
        · exact hS.field hP hL ho (d := 35) (t := 5) (by kernel_rfl) rfl rfl rfl (by decide) (by decide)
        · exact hS.store hL ho (by decide) (by decide) (t := 35) (q := 34) (j := 9) (by kernel_rfl) rfl (dep_of (j := 9) (by kernel_rfl) ho hd) rfl (dep_of (j := 8) (by kernel_rfl) ho hd) hf rfl
      · intro vs W4 R' cap' k4 t y hk4 hc hg hb ho hr hw
        have HA4 : Hid (GA B A n c g w w6.heap.size k4 _ _ _ R' _ cap' _ W4) := Lib.hid ⟨hb, ho, by rw [List.length_append, hlm]; rfl, hc, hg, hr, Nat.le_trans hA.out.wide hw, hL, hgl⟩
        clear hc hg hb ho hr hP hB hw0
        simp only [patch, slotsOf, plan6, List.filterMap_cons, List.filterMap_nil, Option.map_some, Option.map_none, List.foldl_cons, List.foldl_nil, List.set_cons_zero, List.set_cons_succ]
        go_wp2_with fail
        refine (among_at AnyI _ _ _ _ _ _ _ 4 [10, 10, 20, 60] _ HA4.out.cur rfl (by omega) (by decide) (by decide) (fun _ _ => trivial)).mono ?_
        rintro e w5 ⟨d1, _, rfl, hc, hg⟩
        have HA5 := Lib.hid (HA4.out.draw hc hg)
        clear hc hg HA4
        go_wp2_with fail
        go_roundw
        case rel => exact ⟨R', m + 1, cap', _, r - 1, _, _, by omega, by omega, rfl, by go_num, HA5⟩
        case measure => simp [intOf]; omega
end Go.Proofs.Ytdmnkmdlochogaa
