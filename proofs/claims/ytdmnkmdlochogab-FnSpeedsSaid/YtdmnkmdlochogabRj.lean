/-
  Casts that are drawn: contract of spec.l1Cur.cast over this translation. Conditions: stated at each theorem.
-/
import Derived.Test.YtdmnkmdlochogabDx
namespace Go.Proofs.Ytdmnkmdlochogab
open Go.RowKit Go.Sort Go.Deep
set_option linter.unusedVariables false

def plan6 : List (Option Nat × Kg) := [(some 24, .fld), (some 25, .old), (some 26, .any), (some 27, .ptr), (some 28, .row [14000, 14800, 14800, 15000, 16000]), (some 29, .any), (some 30, .rd), (some 31, .one), (some 32, .app), (some 33, .fld), (none, .any)]
theorem plan6_ok : planG 106 plan6 = true := by kernel_rfl
def lenOfK : Value → Nat
  | .slice _ m _ => m
  | _ => 0
def ds20 : List Nat := [77, 78, 79, 80, 81, 82, 83]
def plan20 : List (Option Nat × Kd) := [(some 77, .fld), (some 78, .val), (some 79, .cnt), (some 80, .ptr), (some 81, .num 0 1), (some 82, .num 8 9), (some 83, .less)]
def slotsN (ds : List Nat) (vs : Nat → Value) : List (Nat × Value) := ds.map fun d => (d, vs d)
/-- All slots that the region does not write. -/
def fixAll (N : Nat) (ds : List Nat) (T0 : Array Value) : List (Nat × Value) := ((List.range N).filter fun s => !ds.contains s).map fun s => (s, T0.getD s undef)
theorem plan20_ok (T0 : Array Value) : planB 106 ((fixAll 106 ds20 T0).map (·.1)) plan20 = true := by kernel_rfl
theorem fixAll_mem {N : Nat} {ds : List Nat} {T0 : Array Value} {t : Nat} {v : Value} (h : T0.getD t undef = v) (ht : t < N) (hd : ds.contains t = false) : (t, v) ∈ fixAll N ds T0 :=
  List.mem_map.2 ⟨t, List.mem_filter.2 ⟨List.mem_range.2 ht, by rw [hd]; rfl⟩, by rw [h]⟩
/-- A region that asks whether the row is short enough, in whatever order. -/
theorem region_len {B : Nat} {A : Option Addr} {n c g : Nat} {w : World} {bb k : Nat} {id tm : Int} {sp : Int × Int} {R : Option Addr} {m cap : Nat} {l : List (Int × Int)} {yb : Nat} {p q : Int} {w1 : World} {rid : Nat} {ops : Array Oper} {a0 : Act} {Q : Exit → Act → World → Prop}
    (hsz : a0.tmps.size = 106) (hdb : depB .any ops = true) (hdf : a0.defers = []) (hA : KA B A n c g w bb k id tm sp R m cap l w1) (hY : Has w1 yb [.int .i64 p, .int .i64 q] ∧ YBox w1 yb p q) (hb : bb < yb) (hg : g < yb)
    (h7 : a0.tmps.getD 7 undef = .pointer (some ⟨bb, 0, none⟩)) (h0 : a0.tmps.getD 0 undef = .pointer (some ⟨g, 0, none⟩))
    (hstep : ∀ fuel listed a W, Sv B A n c g id sp tm R m cap w (k + 21) 106 (fixAll 106 ds20 a0.tmps) plan20 bb bb (fun V => V.ownsRow (bb + 1) 140 2 (.slice R m cap) m (cells2 l) ∧ Has V yb [.int .i64 p, .int .i64 q] ∧ YBox V yb p q) [bb] ⟨w.heap.size, w.heap.size, 0, 0, (0, 0), none, 0, 0⟩ (fuel + 1) listed a W →
      (7, Value.pointer (some ⟨bb, 0, none⟩)) ∈ fixAll 106 ds20 a0.tmps → (0, Value.pointer (some ⟨g, 0, none⟩)) ∈ fixAll 106 ds20 a0.tmps →
      ∀ i o, ops[i]? = some o → listed.getD i true = false → (∀ e ∈ o.after, Region.binds .any e = true → listed.getD e.on false = true) →
      wpOp Try.prog ops Q i (fun a' w' => Sv B A n c g id sp tm R m cap w (k + 21) 106 (fixAll 106 ds20 a0.tmps) plan20 bb bb (fun V => V.ownsRow (bb + 1) 140 2 (.slice R m cap) m (cells2 l) ∧ Has V yb [.int .i64 p, .int .i64 q] ∧ YBox V yb p q) [bb] ⟨w.heap.size, w.heap.size, 0, 0, (0, 0), none, 0, 0⟩ fuel (listed.setIfInBounds i true) a' w') a W)
    (hend : ∀ (vs : Nat → Value) (W : World) (k' : Nat) (b : Bool), k' ≤ k + 21 → KA B A n c g w bb k' id tm sp R m cap l W → (Has W yb [.int .i64 p, .int .i64 q] ∧ YBox W yb p q) → vs 83 = .bool b → (b = true → m ≤ 8) → Q .normal ⟨(patch a0.tmps.toList (slotsN ds20 vs)).toArray, []⟩ W)
    (hn : ops.size = 7) : (Code.region rid ops true).wp Try.prog Q a0 w1 := by
  have hL := hA.lie
  have m7 := fixAll_mem (N := 106) (ds := ds20) h7 (by decide) (by decide)
  have m0 := fixAll_mem (N := 106) (ds := ds20) h0 (by decide) (by decide)
  refine region_inv (by kernel_rfl) hdb (Sv B A n c g id sp tm R m cap w (k + 21) 106 (fixAll 106 ds20 a0.tmps) plan20 bb bb (fun V => V.ownsRow (bb + 1) 140 2 (.slice R m cap) m (cells2 l) ∧ Has V yb [.int .i64 p, .int .i64 q] ∧ YBox V yb p q) [bb] ⟨w.heap.size, w.heap.size, 0, 0, (0, 0), none, 0, 0⟩) (fun fuel listed a W hS i o ho hf hd => hstep fuel listed a W hS m7 m0 i o ho hf hd) ?_ ?_
  · intro fuel listed a W hS hall
    obtain ⟨b, eb, hb8⟩ := hS.slots 6 83 .less rfl (hall 6 (by omega))
    obtain ⟨k', hk', hc'⟩ := hS.cur
    have he := frame_is (a := a) (l := a0.tmps.toList) (slotsN ds20 fun d => a.tmps.getD d undef) (by rw [hS.size]; simpa using hsz.symm) hS.defers (fun p hp => by
      obtain ⟨d, _, rfl⟩ := List.mem_map.1 hp
      rfl) (fun s hs hl => by
      have hs2 : ds20.contains s = false := by
        rcases h : ds20.contains s with _ | _
        · rfl
        · exact absurd (List.mem_map.2 ⟨(s, a.tmps.getD s undef), List.mem_map.2 ⟨s, by simpa using h, rfl⟩, rfl⟩) hs
      have hs3 : s < 106 := by
        have : a0.tmps.toList.length = 106 := by simpa using hsz
        omega
      have h1 := hS.fix _ (fixAll_mem (N := 106) (ds := ds20) (T0 := a0.tmps) (t := s) rfl hs3 hs2)
      rw [h1]
      simp [Array.getD_eq_getD_getElem?, List.getD_eq_getElem?_getD])
    have h3 := hend (fun d => a.tmps.getD d undef) W k' b (by omega) ⟨hS.box, hS.kept.1.1, hA.len, hc', hS.grown, hS.box2, hS.low.2 bb (by simp), hL, hA.low⟩ hS.kept.1.2 eb hb8
    rw [← he] at h3
    exact h3
  · refine ⟨hsz, hdf, ?_, fun i d K _ hl => (rep_no' hl).elim, ⟨k, by omega, hA.cur.drew_'⟩, grown_drew hA.grown, hA.box.drew, ⟨⟨own_drew hA.own, hY.1.drew, hY.2⟩, ?_⟩, ⟨by simp, ?_⟩, ⟨_, hA.box.drew, rfl, fun i _ hl => (rep_no' hl).elim⟩, hA.res.drew, ⟨_, hA.res.drew, rfl, fun i _ hl => (rep_no' hl).elim⟩, ⟨hL.ne2, hL.ne2, hL.ne3, hL.ne3⟩⟩
    · intro p hp
      obtain ⟨s, _, rfl⟩ := List.mem_map.1 hp
      rfl
    · intro V V' q' hg' hq ⟨ho, hy1, hy2⟩
      have hgb := hL.gb
      have hbr := hL.brb
      have hq2 : q' < bb + 1 := by rcases hq with rfl | rfl | rfl <;> omega
      exact ⟨own_any ho hg' (fun i e => by have := Option.some.inj e; omega), has_grown hy1 hg' (fun e => by have := Option.some.inj e; omega), hy2.keep hg' (fun e => by have := Option.some.inj e; omega)⟩
    · intro q' hq'
      rw [List.mem_singleton.1 hq']
      exact hA.box.1
set_option maxRecDepth 20000 in
set_option maxHeartbeats 6400000 in
theorem cast_any (B : Nat) (A : Option Addr) (n c g k : Nat) (id tm : Int) (w : World) (h : Cur B A n c g k w) (hk : k < 800000) :
    Calls Try.prog 132 #[.pointer (some ⟨g, 0, none⟩), .int .i64 id, .int .i64 tm] w (CastAny B A n c g k w) := by
  obtain ⟨i0, hi, hz0, hz1, hz2⟩ := info_parts infoLayer
  have HI := Lib.hid (And.intro hi (And.intro hz0 (And.intro hz1 hz2)))
  clear hi hz0 hz1 hz2
  have hgl := h.lt
  have HG0 : Hid (w.grownBy (w.alloc (.cells #[.int .i64 0, .int .i64 0, .int .i64 0, .int .i64 0, .slice none 0 0] 64)) (some g)) := Lib.hid (World.grownBy_alloc _ _ _)
  have HZ0 : Hid (Has (w.alloc (.cells #[.int .i64 0, .int .i64 0, .int .i64 0, .int .i64 0, .slice none 0 0] 64)) w.heap.size [.int .i64 0, .int .i64 0, .int .i64 0, .int .i64 0, .slice none 0 0]) := Lib.hid (by simpa using Has.new w #[.int .i64 0, .int .i64 0, .int .i64 0, .int .i64 0, .slice none 0 0] 64)
  have HC0 := Lib.hid (h.alloc (.cells #[.int .i64 0, .int .i64 0, .int .i64 0, .int .i64 0, .slice none 0 0] 64))
  clear h
  have HNE := Lib.hid (show some w.heap.size ≠ some g from fun e => by have := Option.some.inj e; omega)
  go_enter Try.func132, Try.ntmps132
  go_wp2_with fail
  refine (spot_any _ _ _ _ _ _ _ HC0.out (by omega)).mono ?_
  rintro e w6 ⟨sx, sy, k0, hk01, hk02, rfl, hc, hg⟩
  have HC6 := Lib.hid hc
  have HG6 := Lib.hid (grown_trans HG0.out hg)
  have HZ6 := Lib.hid (has_grown HZ0.out hg HNE.out)
  clear hc hg HC0 HG0 HZ0
  obtain ⟨sp, rfl, rfl⟩ : ∃ sp : Int × Int, sp.1 = sx ∧ sp.2 = sy := ⟨(sx, sy), rfl, rfl⟩
  obtain ⟨W0, hW0⟩ : ∃ W0, W0 = w6.alloc (.cells #[.int .i64 id, .int .i64 tm, .int .i64 sp.1, .int .i64 sp.2, .slice none 0 0] 64) := ⟨_, rfl⟩
  have HE := Lib.hid hW0
  have HA0 : Hid (KA B A n c g w w6.heap.size k0 id tm sp none 0 0 [] W0) := by
    rw [hW0]
    have h1 := HZ6.out.1
    have h2 := HC6.out.lt
    have h3 := HC6.out.old
    exact Lib.hid ⟨by simpa using Has.new w6 #[.int .i64 id, .int .i64 tm, .int .i64 sp.1, .int .i64 sp.2, .slice none 0 0] 64, World.ownsRow_nil _ _ _ _, rfl, HC6.out.alloc _, grown_trans HG6.out (World.grownBy_alloc _ _ _), HZ6.out.alloc _, by simp, ⟨by omega, by omega, by omega, by omega, by omega, by omega, by omega, by omega⟩, hgl⟩
  clear hW0 HC6 HG6 HZ6
  go_upto_region 2 with fail
  rw [← HE.out]
  go_wp2_with fail
  refine (pick_any _ _ _ _ _ _ 5 _ HA0.out.cur (by omega) (by decide) (by decide)).mono ?_
  rintro e w2 ⟨v, hv, rfl, hc, hg⟩
  have HA2 := Lib.hid (HA0.out.draw hc hg)
  clear hc hg HA0 HE
  go_wp2_with fail
  go_loopw [8, 9] (fun tv i wr => ∃ (R : Option Addr) (m cap k' r : Nat) (l : List (Int × Int)) (dd : Int), m + r ≤ 5 ∧ 1 ≤ m + r ∧ k' + 12 * r ≤ k + 100 ∧ tv = .int .i64 dd ∧ i = .int .i64 r ∧ Hid (KA B A n c g w w6.heap.size k' id tm sp R m cap l wr)) (fun _ i _ => (intOf i).toNat)
  case atStart => exact ⟨none, 0, 0, _, v + 1, [], 0, by omega, by omega, by omega, rfl, by go_num, HA2⟩
  case round =>
    clear HA2
    obtain ⟨R, m, cap, k', r, l, dd, hmr, hmr1, hk2, rfl, rfl, hA⟩ := hrel
    rcases Nat.eq_zero_or_pos r with h0 | h0
    · subst h0
      obtain ⟨⟨_, _, _, _, b4⟩, _⟩ := hA.out.cells
      have hm0 : 0 < m := by omega
      have hlm := hA.out.len
      go_wp2_with fail
      refine (pick_ge1 _ _ _ _ _ _ m _ hA.out.cur (by omega) hm0 (by omega)).mono ?_
      rintro e w3 ⟨kk, k3, hkk, hk3, hk4, rfl, hc, hg⟩
      have HA3 := Lib.hid (hA.out.draw hc hg)
      clear hc hg hA b4
      obtain ⟨rg, dx, dy, hR, hrg1, hrg2, hlk, c0, c1, fc0, fc1⟩ := HA3.out.rows.2 kk hkk
      subst hR
      obtain ⟨⟨_, _, _, _, b4⟩, _⟩ := HA3.out.cells
      have hwd := HA3.out.wide
      have hlow := HA3.out.cur.lt
      have hkl : (kk : Int) < m := by omega
      have HOB := Lib.hid (show (Value.slice (some ⟨rg, 0, none⟩) m cap).ownBlock ≠ some w3.heap.size from fun e => by have e2 : rg = w3.heap.size := Option.some.inj e; omega)
      have HYG := Lib.hid (show some w3.heap.size ≠ some g from fun e => by have := Option.some.inj e; omega)
      have HYB := Lib.hid (show some w3.heap.size ≠ some w6.heap.size from fun e => by have := Option.some.inj e; omega)
      obtain ⟨W4, hW4⟩ : ∃ W, W = w3.alloc (.cells #[.int .i64 dx, .int .i64 dy] 140) := ⟨_, rfl⟩
      have HA4 : Hid (KA B A n c g w w6.heap.size k3 id tm sp (some ⟨rg, 0, none⟩) m cap l W4) := by rw [hW4]; exact Lib.hid (HA3.out.alloc _)
      have HY4 : Hid (Has W4 w3.heap.size [.int .i64 dx, .int .i64 dy] ∧ YBox W4 w3.heap.size dx dy) := by rw [hW4]; exact Lib.hid ⟨by simpa using Has.new w3 #[.int .i64 dx, .int .i64 dy] 140, YBox.new _ _ _⟩
      have HE4 := Lib.hid hW4
      clear hW4
      go_upto_region 10 with fail
      rw [← HE4.out]
      clear HE4 HA3 b4 c0 c1 fc0 fc1
      go_wp2_with fail
      refine (pick_any _ _ _ _ _ _ 60 _ HA4.out.cur (by omega) (by decide) (by decide)).mono ?_
      rintro e w5 ⟨q, hq, rfl, hc, hg⟩
      have HA5 := Lib.hid (HA4.out.draw hc hg)
      have HY5 := Lib.hid (And.intro (has_grown HY4.out.1 hg HYG.out) (HY4.out.2.keep hg HYG.out))
      clear hc hg HA4 HY4
      by_cases hq0 : q = 0
      · subst hq0
        go_wp2_with fail
        refine (among_at AnyI _ _ _ _ _ _ _ 3 [0, 99, 100] _ HA5.out.cur rfl (by omega) (by decide) (by decide) (fun _ _ => trivial)).mono ?_
        rintro e w7 ⟨x, _, rfl, hc, hg⟩
        have HA6 := Lib.hid (HA5.out.draw hc hg)
        have HY6 := Lib.hid (And.intro (has_grown HY5.out.1 hg HYG.out) (HY5.out.2.keep hg HYG.out))
        clear hc hg HA5 HY5
        obtain ⟨⟨b0, b1, _⟩, fb⟩ := HA6.out.cells
        have fb0 := fb 0
        obtain ⟨W7, hW7⟩ : ∃ W, W = w7.setCell ⟨w6.heap.size, 0, none⟩ (.int .i64 x) := ⟨_, rfl⟩
        have HA7 : Hid (KA B A n c g w w6.heap.size (k3 + 1 + 1) x tm sp (some ⟨rg, 0, none⟩) m cap l W7) := by rw [hW7]; exact Lib.hid (HA6.out.put 0 _ rfl HA6.out.own HA6.out.len)
        have HY7 : Hid (Has W7 w3.heap.size [.int .i64 dx, .int .i64 dy] ∧ YBox W7 w3.heap.size dx dy) := by rw [hW7]; exact Lib.hid ⟨has_grown HY6.out.1 (set_grown _ _ _ _) HYB.out, HY6.out.2.keep (set_grown _ _ _ _) HYB.out⟩
        have HE7 := Lib.hid hW7
        clear hW7
        go_upto_region 26 with fail
        rw [← HE7.out]
        clear HE7 HA6 HY6
        obtain ⟨⟨_, _, _, _, b4⟩, fb⟩ := HA7.out.cells
        have e0 := HY7.out.1.at_ 0 _ rfl
        have e1 := HY7.out.1.at_ 1 _ rfl
        obtain ⟨rg2, dx2, dy2, hR2, _, _, _, c0, c1, fc0, fc1⟩ := HA7.out.rows.2 kk (by omega)
        obtain rfl : rg = rg2 := by injection hR2 with h; injection h
        have hlm := HA7.out.len
        have HF := Lib.hid (HA7.out.set (rg := rg) (j := kk) (by omega) dx dy)
        obtain ⟨W9, hW9⟩ : ∃ W, W = (W7.setCell ⟨rg, kk * 2, none⟩ (.int .i64 dx)).setCell ⟨rg, kk * 2 + 1, none⟩ (.int .i64 dy) := ⟨_, rfl⟩
        rw [← hW9] at HF
        have HE := Lib.hid hW9
        clear hW9
        go_upto_region 27 with fail
        rw [← HE.out]
        clear HE b4 fb e0 e1 c0 c1 fc0 fc1
        obtain ⟨a0, a1, a2, a3, a4⟩ := HF.out.cells
        obtain ⟨⟨z0, z1, z2, z3, z4⟩, f0, f1, f2, f3, f4⟩ := HF.out.zeros
        have HFF := Lib.hid (fin_k HF.out)
        obtain ⟨⟨r0, r1, r2, r3, r4⟩, _⟩ := HFF.out
        simp only [setL] at r0 r1 r2 r3 r4
        go_wp2_with fail
        refine bodyPost_ret (v := .agg #[.int .i64 x, .int .i64 tm, .int .i64 sp.1, .int .i64 sp.2, .slice (some ⟨rg, 0, none⟩) m cap]) (by simp [results, Try.results132, go_sem, r0, r1, r2, r3, r4]) rfl ⟨_, _, _, _, _, _, _, _, (by rw [List.length_set]; exact hlm), (by omega), by omega, rfl, HFF.out.2.1, HFF.out.2.2.1, HFF.out.2.2.2⟩
      have hq0' : ((q : Int) == 0) = false := beq_eq_false_iff_ne.2 (by omega)
      by_cases hq1 : q = 1
      · subst hq1
        go_wp2_with fail
        refine (among_at AnyI _ _ _ _ _ _ _ 2 [-1, 10001] _ HA5.out.cur rfl (by omega) (by decide) (by decide) (fun _ _ => trivial)).mono ?_
        rintro e w7 ⟨x, _, rfl, hc, hg⟩
        have HA6 := Lib.hid (HA5.out.draw hc hg)
        have HY6 := Lib.hid (And.intro (has_grown HY5.out.1 hg HYG.out) (HY5.out.2.keep hg HYG.out))
        clear hc hg HA5 HY5
        obtain ⟨⟨b0, b1, _⟩, fb⟩ := HA6.out.cells
        have fb0 := fb 1
        obtain ⟨W7, hW7⟩ : ∃ W, W = w7.setCell ⟨w6.heap.size, 1, none⟩ (.int .i64 x) := ⟨_, rfl⟩
        have HA7 : Hid (KA B A n c g w w6.heap.size (k3 + 1 + 1) id x sp (some ⟨rg, 0, none⟩) m cap l W7) := by rw [hW7]; exact Lib.hid (HA6.out.put 1 _ rfl HA6.out.own HA6.out.len)
        have HY7 : Hid (Has W7 w3.heap.size [.int .i64 dx, .int .i64 dy] ∧ YBox W7 w3.heap.size dx dy) := by rw [hW7]; exact Lib.hid ⟨has_grown HY6.out.1 (set_grown _ _ _ _) HYB.out, HY6.out.2.keep (set_grown _ _ _ _) HYB.out⟩
        have HE7 := Lib.hid hW7
        clear hW7
        go_upto_region 26 with fail
        rw [← HE7.out]
        clear HE7 HA6 HY6
        obtain ⟨⟨_, _, _, _, b4⟩, fb⟩ := HA7.out.cells
        have e0 := HY7.out.1.at_ 0 _ rfl
        have e1 := HY7.out.1.at_ 1 _ rfl
        obtain ⟨rg2, dx2, dy2, hR2, _, _, _, c0, c1, fc0, fc1⟩ := HA7.out.rows.2 kk (by omega)
        obtain rfl : rg = rg2 := by injection hR2 with h; injection h
        have hlm := HA7.out.len
        have HF := Lib.hid (HA7.out.set (rg := rg) (j := kk) (by omega) dx dy)
        obtain ⟨W9, hW9⟩ : ∃ W, W = (W7.setCell ⟨rg, kk * 2, none⟩ (.int .i64 dx)).setCell ⟨rg, kk * 2 + 1, none⟩ (.int .i64 dy) := ⟨_, rfl⟩
        rw [← hW9] at HF
        have HE := Lib.hid hW9
        clear hW9
        go_upto_region 27 with fail
        rw [← HE.out]
        clear HE b4 fb e0 e1 c0 c1 fc0 fc1
        obtain ⟨a0, a1, a2, a3, a4⟩ := HF.out.cells
        obtain ⟨⟨z0, z1, z2, z3, z4⟩, f0, f1, f2, f3, f4⟩ := HF.out.zeros
        have HFF := Lib.hid (fin_k HF.out)
        obtain ⟨⟨r0, r1, r2, r3, r4⟩, _⟩ := HFF.out
        simp only [setL] at r0 r1 r2 r3 r4
        go_wp2_with fail
        refine bodyPost_ret (v := .agg #[.int .i64 id, .int .i64 x, .int .i64 sp.1, .int .i64 sp.2, .slice (some ⟨rg, 0, none⟩) m cap]) (by simp [results, Try.results132, go_sem, r0, r1, r2, r3, r4]) rfl ⟨_, _, _, _, _, _, _, _, (by rw [List.length_set]; exact hlm), (by omega), by omega, rfl, HFF.out.2.1, HFF.out.2.2.1, HFF.out.2.2.2⟩
      have hq1' : ((q : Int) == 1) = false := beq_eq_false_iff_ne.2 (by omega)
      by_cases hq2 : q = 2
      · subst hq2
        go_wp2_with fail
        refine (among_at AnyI _ _ _ _ _ _ _ 3 [-1, 1, 20001] _ HA5.out.cur rfl (by omega) (by decide) (by decide) (fun _ _ => trivial)).mono ?_
        rintro e w7 ⟨x, _, rfl, hc, hg⟩
        have HA6 := Lib.hid (HA5.out.draw hc hg)
        have HY6 := Lib.hid (And.intro (has_grown HY5.out.1 hg HYG.out) (HY5.out.2.keep hg HYG.out))
        clear hc hg HA5 HY5
        have d0 := HY6.out.1.at_ 0 _ rfl
        have d1 := HY6.out.1.at_ 1 _ rfl
        have fd := HY6.out.1.free (0)
        obtain ⟨W7, hW7⟩ : ∃ W, W = w7.setCell ⟨w3.heap.size, 0, none⟩ (.int .i64 x) := ⟨_, rfl⟩
        have HA7 : Hid (KA B A n c g w w6.heap.size (k3 + 1 + 1) id tm sp (some ⟨rg, 0, none⟩) m cap l W7) := by rw [hW7]; exact Lib.hid (HA6.out.side (by omega) (by omega) HOB.out (0) (.int .i64 x))
        have HY7 : Hid (Has W7 w3.heap.size [.int .i64 x, .int .i64 dy] ∧ True) := by rw [hW7]; exact Lib.hid ⟨HY6.out.1.set (0) (.int .i64 x), trivial⟩
        have HE7 := Lib.hid hW7
        clear hW7
        go_upto_region 26 with fail
        rw [← HE7.out]
        clear HE7 HA6 HY6
        obtain ⟨⟨_, _, _, _, b4⟩, fb⟩ := HA7.out.cells
        have e0 := HY7.out.1.at_ 0 _ rfl
        have e1 := HY7.out.1.at_ 1 _ rfl
        obtain ⟨rg2, dx2, dy2, hR2, _, _, _, c0, c1, fc0, fc1⟩ := HA7.out.rows.2 kk (by omega)
        obtain rfl : rg = rg2 := by injection hR2 with h; injection h
        have hlm := HA7.out.len
        have HF := Lib.hid (HA7.out.set (rg := rg) (j := kk) (by omega) x dy)
        obtain ⟨W9, hW9⟩ : ∃ W, W = (W7.setCell ⟨rg, kk * 2, none⟩ (.int .i64 x)).setCell ⟨rg, kk * 2 + 1, none⟩ (.int .i64 dy) := ⟨_, rfl⟩
        rw [← hW9] at HF
        have HE := Lib.hid hW9
        clear hW9
        go_upto_region 27 with fail
        rw [← HE.out]
        clear HE b4 fb e0 e1 c0 c1 fc0 fc1
        obtain ⟨a0, a1, a2, a3, a4⟩ := HF.out.cells
        obtain ⟨⟨z0, z1, z2, z3, z4⟩, f0, f1, f2, f3, f4⟩ := HF.out.zeros
        have HFF := Lib.hid (fin_k HF.out)
        obtain ⟨⟨r0, r1, r2, r3, r4⟩, _⟩ := HFF.out
        simp only [setL] at r0 r1 r2 r3 r4
        go_wp2_with fail
        refine bodyPost_ret (v := .agg #[.int .i64 id, .int .i64 tm, .int .i64 sp.1, .int .i64 sp.2, .slice (some ⟨rg, 0, none⟩) m cap]) (by simp [results, Try.results132, go_sem, r0, r1, r2, r3, r4]) rfl ⟨_, _, _, _, _, _, _, _, (by rw [List.length_set]; exact hlm), (by omega), by omega, rfl, HFF.out.2.1, HFF.out.2.2.1, HFF.out.2.2.2⟩
      have hq2' : ((q : Int) == 2) = false := beq_eq_false_iff_ne.2 (by omega)
      by_cases hq3 : q = 3
      · subst hq3
        go_wp2_with fail
        refine (among_at AnyI _ _ _ _ _ _ _ 2 [13999, 16001] _ HA5.out.cur rfl (by omega) (by decide) (by decide) (fun _ _ => trivial)).mono ?_
        rintro e w7 ⟨x, _, rfl, hc, hg⟩
        have HA6 := Lib.hid (HA5.out.draw hc hg)
        have HY6 := Lib.hid (And.intro (has_grown HY5.out.1 hg HYG.out) (HY5.out.2.keep hg HYG.out))
        clear hc hg HA5 HY5
        have d0 := HY6.out.1.at_ 0 _ rfl
        have d1 := HY6.out.1.at_ 1 _ rfl
        have fd := HY6.out.1.free (1)
        obtain ⟨W7, hW7⟩ : ∃ W, W = w7.setCell ⟨w3.heap.size, 1, none⟩ (.int .i64 x) := ⟨_, rfl⟩
        have HA7 : Hid (KA B A n c g w w6.heap.size (k3 + 1 + 1) id tm sp (some ⟨rg, 0, none⟩) m cap l W7) := by rw [hW7]; exact Lib.hid (HA6.out.side (by omega) (by omega) HOB.out (1) (.int .i64 x))
        have HY7 : Hid (Has W7 w3.heap.size [.int .i64 dx, .int .i64 x] ∧ True) := by rw [hW7]; exact Lib.hid ⟨HY6.out.1.set (1) (.int .i64 x), trivial⟩
        have HE7 := Lib.hid hW7
        clear hW7
        go_upto_region 26 with fail
        rw [← HE7.out]
        clear HE7 HA6 HY6
        obtain ⟨⟨_, _, _, _, b4⟩, fb⟩ := HA7.out.cells
        have e0 := HY7.out.1.at_ 0 _ rfl
        have e1 := HY7.out.1.at_ 1 _ rfl
        obtain ⟨rg2, dx2, dy2, hR2, _, _, _, c0, c1, fc0, fc1⟩ := HA7.out.rows.2 kk (by omega)
        obtain rfl : rg = rg2 := by injection hR2 with h; injection h
        have hlm := HA7.out.len
        have HF := Lib.hid (HA7.out.set (rg := rg) (j := kk) (by omega) dx x)
        obtain ⟨W9, hW9⟩ : ∃ W, W = (W7.setCell ⟨rg, kk * 2, none⟩ (.int .i64 dx)).setCell ⟨rg, kk * 2 + 1, none⟩ (.int .i64 x) := ⟨_, rfl⟩
        rw [← hW9] at HF
        have HE := Lib.hid hW9
        clear hW9
        go_upto_region 27 with fail
        rw [← HE.out]
        clear HE b4 fb e0 e1 c0 c1 fc0 fc1
        obtain ⟨a0, a1, a2, a3, a4⟩ := HF.out.cells
        obtain ⟨⟨z0, z1, z2, z3, z4⟩, f0, f1, f2, f3, f4⟩ := HF.out.zeros
        have HFF := Lib.hid (fin_k HF.out)
        obtain ⟨⟨r0, r1, r2, r3, r4⟩, _⟩ := HFF.out
        simp only [setL] at r0 r1 r2 r3 r4
        go_wp2_with fail
        refine bodyPost_ret (v := .agg #[.int .i64 id, .int .i64 tm, .int .i64 sp.1, .int .i64 sp.2, .slice (some ⟨rg, 0, none⟩) m cap]) (by simp [results, Try.results132, go_sem, r0, r1, r2, r3, r4]) rfl ⟨_, _, _, _, _, _, _, _, (by rw [List.length_set]; exact hlm), (by omega), by omega, rfl, HFF.out.2.1, HFF.out.2.2.1, HFF.out.2.2.2⟩
      have hq3' : ((q : Int) == 3) = false := beq_eq_false_iff_ne.2 (by omega)
      by_cases hq4 : q = 4
      · subst hq4
        go_wp2_with fail
        go_loopw [8] (fun d wr => ∃ (R : Option Addr) (m cap k' : Nat) (l : List (Int × Int)) (dd : Int), kk < m ∧ m ≤ 9 ∧ k' ≤ k + 120 + 21 * m ∧ d = .int .i64 dd ∧ Hid (KA B A n c g w w6.heap.size k' id tm sp R m cap l wr) ∧ Hid (Has wr w3.heap.size [.int .i64 dx, .int .i64 dy] ∧ YBox wr w3.heap.size dx dy) ∧ Hid ((Value.slice R m cap).ownBlock ≠ some w3.heap.size)) (fun _ wr => 10 - lenOfK ((wr.cell? ⟨w6.heap.size, 4, none⟩).getD undef))
        case atStart => exact ⟨_, m, cap, _, l, _, hkk, by omega, by omega, rfl, HA5, HY5, HOB⟩
        case round =>
          clear HA5 HY5 HOB
          obtain ⟨R, m, cap, k', l, dd, hkm, hm9, hk6, rfl, hA, hY, hO⟩ := hrel
          have hA0c := Lib.hid (hA.out.cells.1.2.2.2.2)
          go_upto_region 20 with fail
          have hdd := hm9
          refine region_len (rid := _) rfl (by kernel_rfl) rfl hA.out hY.out (by omega) (by omega) rfl rfl ?_ ?_ rfl
          · intro fuel listed a W hS hT7 hT0 i o ho hf hd
            have hP := plan20_ok
            have hgb := hA.out.lie.gb
            have hbb : w6.heap.size ≠ g := hA.out.lie.ne1
            have hK : k' + 21 ≤ 900000 := by omega
            have hi : i < 7 := (Array.getElem?_eq_some_iff.1 ho).1
            obtain rfl | rfl | rfl | rfl | rfl | rfl | rfl : i = 0 ∨ i = 1 ∨ i = 2 ∨ i = 3 ∨ i = 4 ∨ i = 5 ∨ i = 6 := by omega
            · exact hS.field (hP _) hbb hbb ho (d := 77) (t := 7) (by kernel_rfl) hT7 rfl
            · exact hS.loadV (hP _) hbb hbb ho (d := 78) (t := 77) (j := 0) (by kernel_rfl) rfl (dep_of (j := 0) (by kernel_rfl) ho hd) rfl
            · exact hS.len (hP _) hbb hbb ho (d := 79) (t := 78) (j := 1) (by kernel_rfl) rfl (dep_of (j := 1) (by kernel_rfl) ho hd) rfl
            · exact hS.move (hP _) hbb hbb ho (d := 80) (t := 0) (by kernel_rfl) hT0 rfl
            · exact hS.pick2 (hP _) hbb hbb ho hK (d := 81) (t := 80) (j := 3) (ts := #[97, 3]) (by kernel_rfl) rfl (dep_of (j := 3) (by kernel_rfl) ho hd) rfl
            · exact hS.add8 (hP _) hbb hbb ho (d := 82) (t := 81) (j := 4) (by kernel_rfl) rfl (dep_of (j := 4) (by kernel_rfl) ho hd) rfl
            · exact hS.less (hP _) hbb hbb ho (d := 83) (t := 79) (s := 82) (j := 2) (j' := 5) (by kernel_rfl) rfl (dep_of (j := 2) (by kernel_rfl) ho hd) rfl (dep_of (j := 5) (by kernel_rfl) ho hd) rfl
          · intro vs W5 k5 b hk5 hA5 hY5 hvs hb8
            have HA5 := Lib.hid hA5
            have HY5 := Lib.hid hY5
            clear hA5 hY5 hA hY
            simp only [patch, slotsN, ds20, List.map_cons, List.map_nil, List.foldl_cons, List.foldl_nil, List.set_cons_zero, List.set_cons_succ, hvs]
            rcases b with _ | _
            · go_upto_region 26 with fail
              obtain ⟨⟨_, _, _, _, b4⟩, fb⟩ := HA5.out.cells
              have e0 := HY5.out.1.at_ 0 _ rfl
              have e1 := HY5.out.1.at_ 1 _ rfl
              obtain ⟨rg2, dx2, dy2, hR2, _, _, _, c0, c1, fc0, fc1⟩ := HA5.out.rows.2 kk (by omega)
              subst hR2
              have hlm := HA5.out.len
              have HF := Lib.hid (HA5.out.set (rg := rg2) (j := kk) (by omega) dx dy)
              obtain ⟨W9, hW9⟩ : ∃ W, W = (W5.setCell ⟨rg2, kk * 2, none⟩ (.int .i64 dx)).setCell ⟨rg2, kk * 2 + 1, none⟩ (.int .i64 dy) := ⟨_, rfl⟩
              rw [← hW9] at HF
              have HE := Lib.hid hW9
              clear hW9
              go_upto_region 27 with fail
              rw [← HE.out]
              clear HE b4 fb e0 e1 c0 c1 fc0 fc1
              obtain ⟨a0, a1, a2, a3, a4⟩ := HF.out.cells
              obtain ⟨⟨z0, z1, z2, z3, z4⟩, f0, f1, f2, f3, f4⟩ := HF.out.zeros
              have HFF := Lib.hid (fin_k HF.out)
              obtain ⟨⟨r0, r1, r2, r3, r4⟩, _⟩ := HFF.out
              simp only [setL] at r0 r1 r2 r3 r4
              go_wp2_with fail
              refine bodyPost_ret (v := .agg #[.int .i64 id, .int .i64 tm, .int .i64 sp.1, .int .i64 sp.2, .slice (some ⟨rg2, 0, none⟩) m cap]) (by simp [results, Try.results132, go_sem, r0, r1, r2, r3, r4]) rfl ⟨_, _, _, _, _, _, _, _, (by rw [List.length_set]; exact hlm), (by omega), by omega, rfl, HFF.out.2.1, HFF.out.2.2.1, HFF.out.2.2.2⟩
            · have hm8 := hb8 rfl
              obtain ⟨⟨_, _, _, _, b4⟩, _⟩ := HA5.out.cells
              have hwide := HA5.out.wide
              go_wp2_with (at_builtin; go_loud (refine wpList_append_own _ rfl _ _ 62 rfl (w6.heap.size + 1) 140 i0 (.agg #[.int .i64 0, .int .i64 0]) 2 16 Try.underlying62 HI.out.1 HI.out.2.1 HI.out.2.2.1 HI.out.2.2.2 rfl (by decide) _ _ _ rfl (HA5.out.alloc _).own ⟨W5.heap.size, 0, none⟩ 1 1 [.int .i64 _, .int .i64 _] rfl rfl (two_new _ _ _ _) (by simp [Value.oneCell']) (by unfold maxLen; omega) (by omega) (HA5.out.alloc _).wide ?_; intro v' w7 hown' hgrow _; obtain ⟨R', cap', rfl⟩ := own_slice hown'; obtain ⟨⟨b5, fb5⟩, hA7⟩ := (HA5.out.alloc _).append hown' hgrow; have HA7 := Lib.hid hA7; have hgr1 := World.grownBy_alloc W5 (.cells #[.int .i64 dd, .int .i64 15000] 140) none; have hY6 := Lib.hid (And.intro (has_grown (has_grown HY5.out.1 hgr1 (by simp)) hgrow (fun e => hO.out e.symm)) ((HY5.out.2.keep hgr1 (by simp)).keep hgrow (fun e => hO.out e.symm))); have HO7 := Lib.hid (hY6.out.2.apart hown' (by omega)); have HY7 := Lib.hid (And.intro (has_grown hY6.out.1 (set_grown w7 w6.heap.size 4 (.slice R' (m + 1) cap')) HYB.out) (hY6.out.2.keep (set_grown w7 w6.heap.size 4 (.slice R' (m + 1) cap')) HYB.out)); clear hown' hgrow hA7 hY6 hgr1))
              go_roundw
              case rel => exact ⟨R', m + 1, cap', _, _, _, by omega, by omega, by omega, by go_num, HA7, HY7, HO7⟩
              case measure =>
                have e1 := HA7.out.cells.1.2.2.2.2
                have e2 := hA0c.out
                simp only [e1, e2, Option.getD_some, lenOfK]
                omega
      have hq4' : ((q : Int) == 4) = false := beq_eq_false_iff_ne.2 (by omega)
      by_cases hq5 : q = 5
      · subst hq5
        obtain ⟨⟨_, _, _, _, b4⟩, fb⟩ := HA5.out.cells
        have fb4 := fb 4
        obtain ⟨W7, hW7⟩ : ∃ W, W = w5.setCell ⟨w6.heap.size, 4, none⟩ (.slice (some ⟨rg, 0, none⟩) 0 cap) := ⟨_, rfl⟩
        have HA7 : Hid (KF B A n c g w w6.heap.size (k3 + 1) id tm sp (some ⟨rg, 0, none⟩) 0 cap [] W7) := by rw [hW7]; exact Lib.hid (HA5.out.put 4 _ rfl HA5.out.nil rfl).fin
        have HE7 := Lib.hid hW7
        clear hW7
        go_upto_region 25 with fail
        rw [← HE7.out]
        clear HE7 b4 fb4 fb HA5
        obtain ⟨a0, a1, a2, a3, a4⟩ := HA7.out.cells
        obtain ⟨⟨z0, z1, z2, z3, z4⟩, f0, f1, f2, f3, f4⟩ := HA7.out.zeros
        have HFF := Lib.hid (fin_k HA7.out)
        obtain ⟨⟨r0, r1, r2, r3, r4⟩, _⟩ := HFF.out
        simp only [setL] at r0 r1 r2 r3 r4
        go_wp2_with fail
        refine bodyPost_ret (v := .agg #[.int .i64 id, .int .i64 tm, .int .i64 sp.1, .int .i64 sp.2, .slice (some ⟨rg, 0, none⟩) 0 cap]) (by simp [results, Try.results132, go_sem, r0, r1, r2, r3, r4]) rfl ⟨_, _, _, _, _, _, _, _, (show ([] : List (Int × Int)).length = 0 from rfl), (by omega), by omega, rfl, HFF.out.2.1, HFF.out.2.2.1, HFF.out.2.2.2⟩
      have hq5' : ((q : Int) == 5) = false := beq_eq_false_iff_ne.2 (by omega)
      go_upto_region 26 with fail
      obtain ⟨⟨_, _, _, _, b4⟩, fb⟩ := HA5.out.cells
      have e0 := HY5.out.1.at_ 0 _ rfl
      have e1 := HY5.out.1.at_ 1 _ rfl
      obtain ⟨rg2, dx2, dy2, hR2, _, _, _, c0, c1, fc0, fc1⟩ := HA5.out.rows.2 kk (by omega)
      obtain rfl : rg = rg2 := by injection hR2 with h; injection h
      have hlm := HA5.out.len
      have HF := Lib.hid (HA5.out.set (rg := rg) (j := kk) (by omega) dx dy)
      obtain ⟨W9, hW9⟩ : ∃ W, W = (w5.setCell ⟨rg, kk * 2, none⟩ (.int .i64 dx)).setCell ⟨rg, kk * 2 + 1, none⟩ (.int .i64 dy) := ⟨_, rfl⟩
      rw [← hW9] at HF
      have HE := Lib.hid hW9
      clear hW9
      go_upto_region 27 with fail
      rw [← HE.out]
      clear HE b4 fb e0 e1 c0 c1 fc0 fc1
      obtain ⟨a0, a1, a2, a3, a4⟩ := HF.out.cells
      obtain ⟨⟨z0, z1, z2, z3, z4⟩, f0, f1, f2, f3, f4⟩ := HF.out.zeros
      have HFF := Lib.hid (fin_k HF.out)
      obtain ⟨⟨r0, r1, r2, r3, r4⟩, _⟩ := HFF.out
      simp only [setL] at r0 r1 r2 r3 r4
      go_wp2_with fail
      refine bodyPost_ret (v := .agg #[.int .i64 id, .int .i64 tm, .int .i64 sp.1, .int .i64 sp.2, .slice (some ⟨rg, 0, none⟩) m cap]) (by simp [results, Try.results132, go_sem, r0, r1, r2, r3, r4]) rfl ⟨_, _, _, _, _, _, _, _, (by rw [List.length_set]; exact hlm), (by omega), by omega, rfl, HFF.out.2.1, HFF.out.2.2.1, HFF.out.2.2.2⟩
    · have hm : m ≤ 1000 := by omega
      go_upto_region 6 with fail
      have hL := hA.out.lie
      have hB : B ≤ w6.heap.size + 1 := by have := hL.Bb; omega
      have hw0 : w.heap.size ≤ w6.heap.size + 1 := by have := hL.w0b; omega
      have hlm := hA.out.len
      have hP := plan6_ok
      refine region_sg (w0 := w) (K0 := k' + 11) (plan := plan6) (bb := w6.heap.size) (br := w.heap.size) (base := w6.heap.size + 1) (il := 1) (ia := 8) (ic := 10) (by kernel_rfl) (by kernel_rfl) rfl (by decide) (Nat.le_refl _) hA.out.cur hA.out.grown hA.out.box hA.out.own hA.out.res rfl ?_ ?_
      · have hRB : ∀ q, rbk _ _ _ = some q → q < _ := fun q e => (rbk_base hA.out.own q e).2
        have hbs := hA.out.wide
        have hK0 : k' + 11 ≤ 900000 := by omega
        intro fuel listed a W hS i o ho hf hd
        have hi : i < 11 := (Array.getElem?_eq_some_iff.1 ho).1
        obtain rfl | rfl | rfl | rfl | rfl | rfl | rfl | rfl | rfl | rfl | rfl : i = 0 ∨ i = 1 ∨ i = 2 ∨ i = 3 ∨ i = 4 ∨ i = 5 ∨ i = 6 ∨ i = 7 ∨ i = 8 ∨ i = 9 ∨ i = 10 := by omega
        · exact hS.field hP hL ho (d := 24) (t := 7) (by kernel_rfl) rfl rfl rfl (by decide) (by decide)
        · exact hS.load hP hL ho (d := 25) (t := 24) (j := 0) (by kernel_rfl) rfl (dep_of (j := 0) (by kernel_rfl) ho hd) (listed_put hf).2 rfl (by decide) (by decide)
        · exact hS.moveI hP hL ho (d := 26) (t := 8) (by kernel_rfl) rfl rfl rfl (by decide) (by decide)
        · exact hS.move hP hL ho (d := 27) (t := 0) (by kernel_rfl) rfl rfl rfl (by decide) (by decide)
        · exact hS.build hP hL ho (d := 28) (xs := [14000, 14800, 14800, 15000, 16000]) (p := .buildSlice 36 5 #[(0, .const (.int .i64 14000)), (1, .const (.int .i64 14800)), (2, .const (.int .i64 14800)), (3, .const (.int .i64 15000)), (4, .const (.int .i64 16000))]) (by kernel_rfl) (fun o a W ho => by simp [execOp, ho, go_sem]) hRB rfl (by decide) (by decide)
        · exact hS.among hP hL ho (d := 29) (t := 27) (q := 28) (j := 3) (j' := 4) (xs := [14000, 14800, 14800, 15000, 16000]) (by decide) (by decide) hK0 (ts := #[97, 36]) (by kernel_rfl) rfl (dep_of (j := 3) (by kernel_rfl) ho hd) rfl (dep_of (j := 4) (by kernel_rfl) ho hd) rfl (by decide) (by decide)
        · exact hS.make hP hL ho (d := 30) (t := 26) (q := 29) (j := 2) (j' := 5) (by kernel_rfl) rfl (dep_of (j := 2) (by kernel_rfl) ho hd) rfl (dep_of (j := 5) (by kernel_rfl) ho hd) rfl (by decide) (by decide)
        · exact hS.one hP hL ho (d := 31) (t := 30) (j := 6) (by kernel_rfl) rfl (dep_of (j := 6) (by kernel_rfl) ho hd) hRB rfl (by decide) (by decide)
        · exact hS.append hP (by kernel_rfl) hL hB hw0 hlm hm ho (by decide) (d := 32) (t := 25) (q := 31) (j' := 7) (by kernel_rfl) rfl (dep_of (j := 1) (by kernel_rfl) ho hd) rfl (dep_of (j := 7) (by kernel_rfl) ho hd) hf rfl hbs (by decide)
        · exact hS.field hP hL ho (d := 33) (t := 7) (by kernel_rfl) rfl rfl rfl (by decide) (by decide)
        · exact hS.store hL ho (by decide) (by decide) (t := 33) (q := 32) (j := 9) (by kernel_rfl) rfl (dep_of (j := 9) (by kernel_rfl) ho hd) rfl (dep_of (j := 8) (by kernel_rfl) ho hd) hf rfl
      · intro vs W4 R' cap' k4 t y hk4 hc hg hb ho hr hw
        have HA4 : Hid (KA B A n c g w w6.heap.size k4 _ _ _ R' _ cap' _ W4) := Lib.hid ⟨hb, ho, by rw [List.length_append, hlm]; rfl, hc, hg, hr, Nat.le_trans hA.out.wide hw, hL, hgl⟩
        clear hc hg hb ho hr hP hB hw0
        simp only [patch, slotsOf, plan6, List.filterMap_cons, List.filterMap_nil, Option.map_some, Option.map_none, List.foldl_cons, List.foldl_nil, List.set_cons_zero, List.set_cons_succ]
        go_wp2_with fail
        refine (among_at AnyI _ _ _ _ _ _ _ 4 [1, 150, 1000, 4000] _ HA4.out.cur rfl (by omega) (by decide) (by decide) (fun _ _ => trivial)).mono ?_
        rintro e w5 ⟨d1, _, rfl, hc, hg⟩
        have HA5 := Lib.hid (HA4.out.draw hc hg)
        clear hc hg HA4
        go_wp2_with fail
        go_roundw
        case rel => exact ⟨R', m + 1, cap', _, r - 1, _, _, by omega, by omega, by omega, rfl, by go_num, HA5⟩
        case measure => simp [intOf]; omega
end Go.Proofs.Ytdmnkmdlochogab
