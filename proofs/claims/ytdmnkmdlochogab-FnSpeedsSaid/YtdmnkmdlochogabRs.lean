/-
  The draw of two casts and a number: contract of spec.DrawSameLayers over this translation. Conditions: stated at each theorem.
-/
import Derived.Test.YtdmnkmdlochogabRo
import Derived.Test.YtdmnkmdlochogabSm
import Derived.Deep.DeepCutAuto
namespace Go.Proofs.Ytdmnkmdlochogab
open Go.RowKit Go.Sort Go.Deep
set_option linter.unusedVariables false

/-- Where the drawing of two casts stands. -/
structure DS (A : Option Addr) (n c : Nat) (w : World) (k bA bB : Nat) (ida tma : Int) (spa : Int × Int) (Ra : Option Addr) (ma ca : Nat) (la : List (Int × Int)) (hA : Nat) (idb tmb : Int) (spb : Int × Int) (Rb : Option Addr) (mb cb : Nat) (lb : List (Int × Int)) (hB : Nat) (V : World) : Prop where
  cur : Cur w.heap.size A n c (w.heap.size + 2) k V
  bel : Below w.heap.size w V
  za : Has V w.heap.size [.int .i64 0, .int .i64 0, .int .i64 0, .int .i64 0, .slice none 0 0]
  zb : Has V (w.heap.size + 1) [.int .i64 0, .int .i64 0, .int .i64 0, .int .i64 0, .slice none 0 0]
  xa : Has V bA [.int .i64 ida, .int .i64 tma, .int .i64 spa.1, .int .i64 spa.2, .slice Ra ma ca]
  xb : Has V bB [.int .i64 idb, .int .i64 tmb, .int .i64 spb.1, .int .i64 spb.2, .slice Rb mb cb]
  ra : OwnL V (w.heap.size + 3) hA Ra ma la ∧ hA ≤ V.heap.size
  rb : OwnL V (w.heap.size + 3) hB Rb mb lb ∧ hB ≤ V.heap.size
section
variable {A : Option Addr} {n c : Nat} {w : World} {k bA bB : Nat} {ida tma : Int} {spa : Int × Int} {Ra : Option Addr} {ma ca : Nat} {la : List (Int × Int)} {hA : Nat} {idb tmb : Int} {spb : Int × Int} {Rb : Option Addr} {mb cb : Nat} {lb : List (Int × Int)} {hB : Nat} {V V' : World}
/-- What grows by the reader, by nothing, or by a block q that none of these has. -/
theorem DS.on (h : DS A n c w k bA bB ida tma spa Ra ma ca la hA idb tmb spb Rb mb cb lb hB V) {k' : Nat} {r : Option Nat} (hg : V.grownBy V' r) (hc : Cur w.heap.size A n c (w.heap.size + 2) k' V') (hr : ∀ q, r = some q → w.heap.size + 2 ≤ q ∧ q ≠ bA ∧ q ≠ bB ∧ Ra ≠ some ⟨q, 0, none⟩ ∧ Rb ≠ some ⟨q, 0, none⟩) :
    DS A n c w k' bA bB ida tma spa Ra ma ca la hA idb tmb spb Rb mb cb lb hB V' :=
  ⟨hc, ⟨hg.os.trans h.bel.os, hg.tape.trans h.bel.tape, hg.output.trans h.bel.output, Nat.le_trans h.bel.size hg.size, fun i hi => (hg.block i (Nat.lt_of_lt_of_le hi h.bel.size) (fun e => by have := (hr i e.symm).1; omega)).trans (h.bel.block i hi)⟩,
   has_grown h.za hg (fun e => by have := (hr _ e.symm).1; omega), has_grown h.zb hg (fun e => by have := (hr _ e.symm).1; omega), has_grown h.xa hg (fun e => (hr _ e.symm).2.1 rfl), has_grown h.xb hg (fun e => (hr _ e.symm).2.2.1 rfl),
   ⟨h.ra.1.keep hg h.ra.2 (fun g' hR e => (hr g' e).2.2.2.1 hR), Nat.le_trans h.ra.2 hg.size⟩, ⟨h.rb.1.keep hg h.rb.2 (fun g' hR e => (hr g' e).2.2.2.2 hR), Nat.le_trans h.rb.2 hg.size⟩⟩
theorem own_ne {W : World} {lo hi q m : Nat} {R : Option Addr} {l : List (Int × Int)} (h : OwnL W lo hi R m l) (hq : q < lo) : R ≠ some ⟨q, 0, none⟩ := fun e => by have := (h.2 q e).1; omega
theorem DS.draw (h : DS A n c w k bA bB ida tma spa Ra ma ca la hA idb tmb spb Rb mb cb lb hB V) (hA' : w.heap.size + 2 < bA) (hB' : w.heap.size + 2 < bB) {k' : Nat} (hc : Cur w.heap.size A n c (w.heap.size + 2) k' V') (hg : V.grownBy V' (some (w.heap.size + 2))) :
    DS A n c w k' bA bB ida tma spa Ra ma ca la hA idb tmb spb Rb mb cb lb hB V' :=
  h.on hg hc (fun q e => by
    have := Option.some.inj e
    subst this
    exact ⟨Nat.le_refl _, by omega, by omega, own_ne h.ra.1 (by omega), own_ne h.rb.1 (by omega)⟩)
theorem DS.alloc (h : DS A n c w k bA bB ida tma spa Ra ma ca la hA idb tmb spb Rb mb cb lb hB V) (x : Obj) : DS A n c w k bA bB ida tma spa Ra ma ca la hA idb tmb spb Rb mb cb lb hB (V.alloc x) :=
  h.on (World.grownBy_alloc V x none) (h.cur.alloc x) (fun q e => by cases e)
theorem DS.drew (h : DS A n c w k bA bB ida tma spa Ra ma ca la hA idb tmb spb Rb mb cb lb hB V) : DS A n c w k bA bB ida tma spa Ra ma ca la hA idb tmb spb Rb mb cb lb hB V.drew :=
  h.on (r := none) ⟨rfl, rfl, rfl, Nat.le_refl _, fun _ _ _ => rfl⟩ h.cur.drew_' (fun q e => by cases e)
theorem DS.putB (h : DS A n c w k bA bB ida tma spa Ra ma ca la hA idb tmb spb Rb mb cb lb hB V) (hAB : bA ≠ bB) (hb : w.heap.size + 2 < bB) (hRa : Ra ≠ some ⟨bB, 0, none⟩) {R' : Option Addr} {m' c' h' : Nat} {l' : List (Int × Int)} (hO : OwnL V (w.heap.size + 3) h' R' m' l') (hh : h' ≤ V.heap.size) (hR' : R' ≠ some ⟨bB, 0, none⟩) :
    DS A n c w k bA bB ida tma spa Ra ma ca la hA idb tmb spb R' m' c' l' h' (V.setCell ⟨bB, 4, none⟩ (.slice R' m' c')) := by
  have hg := set_grown V bB 4 (.slice R' m' c')
  exact ⟨h.cur.set (by omega) (by omega) 4 _, below_of h.bel hg h.bel.size (by omega), has_grown h.za hg (fun e => by have := Option.some.inj e; omega), has_grown h.zb hg (fun e => by have := Option.some.inj e; omega), has_grown h.xa hg (fun e => hAB (Option.some.inj e)), h.xb.set 4 _,
    ⟨h.ra.1.keep hg h.ra.2 (fun g' hR e => by have := Option.some.inj e; subst this; exact hRa hR), Nat.le_trans h.ra.2 hg.size⟩, ⟨hO.keep hg hh (fun g' hR e => by have := Option.some.inj e; subst this; exact hR' hR), Nat.le_trans hh hg.size⟩⟩
theorem DS.setB {rb : Nat} (h : DS A n c w k bA bB ida tma spa Ra ma ca la hA idb tmb spb (some ⟨rb, 0, none⟩) mb cb lb hB V) {j : Nat} (hj : j < mb) (h1 : w.heap.size + 2 < rb) (h2 : rb ≠ bA) (h3 : rb ≠ bB) (hRa : Ra ≠ some ⟨rb, 0, none⟩) (u v : Int) :
    DS A n c w k bA bB ida tma spa Ra ma ca la hA idb tmb spb (some ⟨rb, 0, none⟩) mb cb (lb.set j (u, v)) hB ((V.setCell ⟨rb, j * 2, none⟩ (.int .i64 u)).setCell ⟨rb, j * 2 + 1, none⟩ (.int .i64 v)) := by
  have g1 := set_grown V rb (j * 2) (.int .i64 u)
  have g2 := set_grown (V.setCell ⟨rb, j * 2, none⟩ (.int .i64 u)) rb (j * 2 + 1) (.int .i64 v)
  have hg : V.grownBy ((V.setCell ⟨rb, j * 2, none⟩ (.int .i64 u)).setCell ⟨rb, j * 2 + 1, none⟩ (.int .i64 v)) (some rb) := grown_trans g1 g2
  exact ⟨(h.cur.set (by omega) (by omega) _ _).set (by omega) (by omega) _ _, below_of h.bel hg h.bel.size (by omega), has_grown h.za hg (fun e => by have := Option.some.inj e; omega), has_grown h.zb hg (fun e => by have := Option.some.inj e; omega), has_grown h.xa hg (fun e => h2 (Option.some.inj e).symm), has_grown h.xb hg (fun e => h3 (Option.some.inj e).symm),
    ⟨h.ra.1.keep hg h.ra.2 (fun g' hR e => by have := Option.some.inj e; subst this; exact hRa hR), Nat.le_trans h.ra.2 hg.size⟩, ⟨⟨own2_setK (a := u) (b := v) h.rb.1.1 hj, (h.rb.1.2.set rfl _).set rfl _⟩, Nat.le_trans h.rb.2 hg.size⟩⟩
end
theorem view_of {ops : Array Oper} {i : Nat} {o : Oper} {x : Option Tmp × Op × Option (Nat × Bool)} (_ho : ops[i]? = some o) (h : viewOp ops i = some x) : viewOp ops i = some x := h
theorem own2_cells {W : World} {lo hi n g : Nat} {l : List (Int × Int)} (h : Own2 W lo hi (some ⟨g, 0, none⟩) n l) : ∀ j u, (cells2 l)[j]? = some u → W.cell? ((⟨g, 0, none⟩ : Addr).add j) = some u := by
  intro j u hu
  have hadd : (⟨g, 0, none⟩ : Addr).add j = ⟨g, j, none⟩ := by unfold Addr.add; split <;> simp_all
  rw [hadd]
  have hlen : (cells2 l).length = l.length * 2 := by
    clear hu h
    induction l with
    | nil => rfl
    | cons a l ih =>
      have : cells2 (a :: l) = [.int .i64 a.1, .int .i64 a.2] ++ cells2 l := rfl
      rw [this, List.length_append, ih]
      simp only [List.length_cons, List.length_nil]; omega
  have hj := (List.getElem?_eq_some_iff.1 hu).1
  have hk : j / 2 < n := by have := h.1; omega
  obtain ⟨g', x, y, hA, _, _, hl, c0, c1, _⟩ := h.2 (j / 2) hk
  obtain rfl : g = g' := by injection hA with h; injection h
  obtain ⟨e0, e1⟩ := cells2_at l (j / 2) x y hl
  rcases Nat.mod_two_eq_zero_or_one j with z | z
  · rw [show j / 2 * 2 = j by omega] at e0 c0
    rw [hu] at e0
    rw [c0, e0]
  · rw [show j / 2 * 2 + 1 = j by omega] at e1 c1
    rw [hu] at e1
    rw [c1, e1]
theorem cells2_lenK (l : List (Int × Int)) : (cells2 l).length = l.length * 2 := by
  induction l with
  | nil => rfl
  | cons a l ih =>
    have : cells2 (a :: l) = [.int .i64 a.1, .int .i64 a.2] ++ cells2 l := rfl
    rw [this, List.length_append, ih]
    simp only [List.length_cons, List.length_nil]; omega
theorem cells2_oneK (l : List (Int × Int)) : ∀ u ∈ cells2 l, u.oneCell' = true := by
  intro u hu
  simp only [cells2, List.mem_flatMap, List.mem_cons, List.not_mem_nil, or_false] at hu
  obtain ⟨p, _, rfl | rfl⟩ := hu <;> rfl
def plan8 : List (Option Nat × Kd) := [(some 52, .agg), (some 53, .agg2), (some 54, .ptr), (some 55, .row [0, 1, 200, 1000, 2000, -1, 2001]), (some 56, .ptr), (some 57, .num 0 23), (some 58, .num 0 2), (some 59, .num 5 7), (some 60, .pre [0, 1, 200, 1000, 2000, -1, 2001]), (some 61, .any), (none, .agg), (none, .agg2), (some 4, .any)]
def fix8 (g bA bB br b2 : Nat) : List (Nat × Value) := [(5, .pointer (some ⟨g, 0, none⟩)), (6, .pointer (some ⟨bA, 0, none⟩)), (7, .pointer (some ⟨bB, 0, none⟩)), (2, .pointer (some ⟨br, 0, none⟩)), (3, .pointer (some ⟨b2, 0, none⟩))]
theorem plan8_ok (g bA bB br b2 : Nat) : planB 62 ((fix8 g bA bB br b2).map (·.1)) plan8 = true := by kernel_rfl
def F6 (g yb : Nat) : Nat → Value → Prop
  | 0, x => x = .pointer (some ⟨yb, 1, none⟩)
  | 2, x => x = .pointer (some ⟨g, 0, none⟩)
  | 6, x => x = .pointer (some ⟨yb, 1, none⟩)
  | _, x => ∃ y, x = .int .i64 y
def Draw2Post (w : World) (e : Ending) (w' : World) : Prop := ∃ (ida tma : Int) (spa : Int × Int) (Ra : Option Addr) (ma ca : Nat) (la : List (Int × Int)) (idb tmb : Int) (spb : Int × Int) (Rb : Option Addr) (mb cb : Nat) (lb : List (Int × Int)) (x : Int), e = .returned (.tuple #[.agg #[.int .i64 ida, .int .i64 tma, .int .i64 spa.1, .int .i64 spa.2, .slice Ra ma ca], .agg #[.int .i64 idb, .int .i64 tmb, .int .i64 spb.1, .int .i64 spb.2, .slice Rb mb cb], .int .i64 x]) ∧ DrawK w w' Ra ma la ∧ DrawK w w' Rb mb lb
set_option maxRecDepth 100000 in
set_option maxHeartbeats 12800000 in
theorem draw_two (A : Option Addr) (n c : Nat) (w : World) (h : CodeRow w.heap.size A n w) : Calls Try.prog 63 #[.slice A n c] w (Draw2Post w) := by
  obtain ⟨i0, hi, hz0, hz1, hz2⟩ := info_parts infoLayer
  have HI := Lib.hid (And.intro hi (And.intro hz0 (And.intro hz1 hz2)))
  clear hi hz0 hz1 hz2
  obtain ⟨W1, hW1⟩ : ∃ W, W = ((w.alloc (.cells #[.int .i64 0, .int .i64 0, .int .i64 0, .int .i64 0, .slice none 0 0] 64)).alloc (.cells #[.int .i64 0, .int .i64 0, .int .i64 0, .int .i64 0, .slice none 0 0] 64)).alloc (.cells #[.slice A n c, .int .i64 0, .int .u64 0] 100) := ⟨_, rfl⟩
  have HS1 : Hid (W1.heap.size = w.heap.size + 3) := by rw [hW1]; exact Lib.hid (by simp)
  have HB1 : Hid (Below w.heap.size w W1) := by rw [hW1]; exact Lib.hid ((((Below.refl w.heap.size w).alloc (by simp <;> omega) _).alloc (by simp <;> omega) _).alloc (by simp <;> omega) _)
  have HZ1a : Hid (Has W1 (w.heap.size) [.int .i64 0, .int .i64 0, .int .i64 0, .int .i64 0, .slice none 0 0]) := by rw [hW1]; exact Lib.hid ((((by simpa using Has.new w #[.int .i64 0, .int .i64 0, .int .i64 0, .int .i64 0, .slice none 0 0] 64 : Has (w.alloc (.cells #[.int .i64 0, .int .i64 0, .int .i64 0, .int .i64 0, .slice none 0 0] 64)) w.heap.size [.int .i64 0, .int .i64 0, .int .i64 0, .int .i64 0, .slice none 0 0]).alloc _).alloc _))
  have HZ1b : Hid (Has W1 (w.heap.size + 1) [.int .i64 0, .int .i64 0, .int .i64 0, .int .i64 0, .slice none 0 0]) := by rw [hW1]; exact Lib.hid (((by simpa using Has.new (w.alloc (.cells #[.int .i64 0, .int .i64 0, .int .i64 0, .int .i64 0, .slice none 0 0] 64)) #[.int .i64 0, .int .i64 0, .int .i64 0, .int .i64 0, .slice none 0 0] 64 : Has ((w.alloc (.cells #[.int .i64 0, .int .i64 0, .int .i64 0, .int .i64 0, .slice none 0 0] 64)).alloc (.cells #[.int .i64 0, .int .i64 0, .int .i64 0, .int .i64 0, .slice none 0 0] 64)) (w.heap.size + 1) [.int .i64 0, .int .i64 0, .int .i64 0, .int .i64 0, .slice none 0 0]).alloc _))
  have HC1 : Hid (Cur w.heap.size A n c (w.heap.size + 2) 0 W1) := by
    have h1 := cur_new ((w.alloc (.cells #[.int .i64 0, .int .i64 0, .int .i64 0, .int .i64 0, .slice none 0 0] 64)).alloc (.cells #[.int .i64 0, .int .i64 0, .int .i64 0, .int .i64 0, .slice none 0 0] 64)) A n c 100 (h.below (B' := ((w.alloc (.cells #[.int .i64 0, .int .i64 0, .int .i64 0, .int .i64 0, .slice none 0 0] 64)).alloc (.cells #[.int .i64 0, .int .i64 0, .int .i64 0, .int .i64 0, .slice none 0 0] 64)).heap.size) (((Below.refl w.heap.size w).alloc (by simp <;> omega) _).alloc (by simp <;> omega) _) (by simp <;> omega))
    rw [← hW1] at h1
    have hsz : ((w.alloc (.cells #[.int .i64 0, .int .i64 0, .int .i64 0, .int .i64 0, .slice none 0 0] 64)).alloc (.cells #[.int .i64 0, .int .i64 0, .int .i64 0, .int .i64 0, .slice none 0 0] 64)).heap.size = w.heap.size + 2 := by simp
    rw [hsz] at h1
    exact Lib.hid (cur_low' h1 (h.below HB1.out (Nat.le_refl _)) (by omega))
  have HE1 := Lib.hid hW1
  clear h hW1
  go_enter Try.func63, Try.ntmps63
  go_upto_region 2 with fail
  rw [← HE1.out]
  go_wp2_with fail
  refine (cast_any _ _ _ _ _ _ _ _ _ HC1.out (by omega)).mono ?_
  rintro e w2 ⟨ida, tma, spa, Ra, ma, ca, la, k2, hla, hma, hk2, rfl, hO, hc, hg⟩
  rw [HS1.out] at hO
  have HRA2 := Lib.hid hO
  have HC2 := Lib.hid hc
  have HB2 := Lib.hid (below_of HB1.out hg HB1.out.size (by omega))
  have HZ2a := Lib.hid (has_grown HZ1a.out hg (fun e => by have := Option.some.inj e; omega))
  have HZ2b := Lib.hid (has_grown HZ1b.out hg (fun e => by have := Option.some.inj e; omega))
  have hc2 := hc.lt
  clear hc hg hO HC1 HB1 HZ1a HZ1b HE1 HS1
  go_wp2_with fail
  refine (cast_any _ _ _ _ _ _ _ _ _ HC2.out (by omega)).mono ?_
  rintro e w3 ⟨idb, tmb, spb, Rb, mb, cb, lb, k3, hlb, hmb, hk3, rfl, hO, hc, hg⟩
  have hs23 := hg.size
  have HLA := Lib.hid (And.intro hla hma)
  have HLB := Lib.hid (And.intro hlb hmb)
  obtain ⟨W4, hW4⟩ : ∃ W, W = (w3.alloc (.cells #[.int .i64 ida, .int .i64 tma, .int .i64 spa.1, .int .i64 spa.2, .slice Ra ma ca] 64)).alloc (.cells #[.int .i64 idb, .int .i64 tmb, .int .i64 spb.1, .int .i64 spb.2, .slice Rb mb cb] 64) := ⟨_, rfl⟩
  have hRa : ∀ g', Ra = some ⟨g', 0, none⟩ → g' < w3.heap.size := fun g' hR => by
    obtain ⟨_, cur, hc2⟩ := HRA2.out.2 g' hR
    have := (Array.getElem?_eq_some_iff.1 hc2).1
    omega
  have hRb : ∀ g', Rb = some ⟨g', 0, none⟩ → g' < w3.heap.size := fun g' hR => by
    obtain ⟨_, cur, hc2⟩ := hO.2 g' hR
    exact (Array.getElem?_eq_some_iff.1 hc2).1
  have hsz4 : W4.heap.size = w3.heap.size + 2 := by rw [hW4]; simp
  obtain ⟨hA, hAe⟩ : ∃ h, h = w2.heap.size := ⟨_, rfl⟩
  have HD4 : Hid (DS A n c w k3 w3.heap.size (w3.heap.size + 1) ida tma spa Ra ma ca la hA idb tmb spb Rb mb cb lb w3.heap.size W4) := by
    have g1 := World.grownBy_alloc w3 (.cells #[.int .i64 ida, .int .i64 tma, .int .i64 spa.1, .int .i64 spa.2, .slice Ra ma ca] 64) none
    have g2 := World.grownBy_alloc (w3.alloc (.cells #[.int .i64 ida, .int .i64 tma, .int .i64 spa.1, .int .i64 spa.2, .slice Ra ma ca] 64)) (.cells #[.int .i64 idb, .int .i64 tmb, .int .i64 spb.1, .int .i64 spb.2, .slice Rb mb cb] 64) none
    have hX : Has (w3.alloc (.cells #[.int .i64 ida, .int .i64 tma, .int .i64 spa.1, .int .i64 spa.2, .slice Ra ma ca] 64)) w3.heap.size [.int .i64 ida, .int .i64 tma, .int .i64 spa.1, .int .i64 spa.2, .slice Ra ma ca] := by simpa using Has.new w3 #[.int .i64 ida, .int .i64 tma, .int .i64 spa.1, .int .i64 spa.2, .slice Ra ma ca] 64
    have hY : Has ((w3.alloc (.cells #[.int .i64 ida, .int .i64 tma, .int .i64 spa.1, .int .i64 spa.2, .slice Ra ma ca] 64)).alloc (.cells #[.int .i64 idb, .int .i64 tmb, .int .i64 spb.1, .int .i64 spb.2, .slice Rb mb cb] 64)) (w3.heap.size + 1) [.int .i64 idb, .int .i64 tmb, .int .i64 spb.1, .int .i64 spb.2, .slice Rb mb cb] := by simpa using Has.new (w3.alloc (.cells #[.int .i64 ida, .int .i64 tma, .int .i64 spa.1, .int .i64 spa.2, .slice Ra ma ca] 64)) #[.int .i64 idb, .int .i64 tmb, .int .i64 spb.1, .int .i64 spb.2, .slice Rb mb cb] 64
    have hB3 := below_of HB2.out hg HB2.out.size (by omega)
    rw [hW4, hAe]
    refine Lib.hid ⟨(hc.alloc _).alloc _, (hB3.alloc hB3.size _).alloc (Nat.le_trans hB3.size g1.size) _, ((has_grown HZ2a.out hg (fun e => by have := Option.some.inj e; omega)).alloc _).alloc _, ((has_grown HZ2b.out hg (fun e => by have := Option.some.inj e; omega)).alloc _).alloc _, hX.alloc _, hY, ⟨?_, by simp; omega⟩, ⟨?_, by simp; omega⟩⟩
    · exact ((HRA2.out.draw hg (Nat.le_refl _) (by omega)).keep g1 hs23 (fun _ _ e => by cases e)).keep g2 (Nat.le_trans hs23 g1.size) (fun _ _ e => by cases e)
    · exact ((hO.wide (by omega) (Nat.le_refl _)).keep g1 (Nat.le_refl _) (fun _ _ e => by cases e)).keep g2 g1.size (fun _ _ e => by cases e)
  have HE4 := Lib.hid hW4
  clear hc hg hO HC2 HB2 HZ2a HZ2b HRA2 hla hma hlb hmb hW4 hAe
  have hA2 : w.heap.size + 2 < w3.heap.size := by omega
  have hB2 : w.heap.size + 2 < w3.heap.size + 1 := by omega
  go_upto_region 3 with fail
  rw [← HE4.out]
  clear HE4
  have a4 := HD4.out.xa.at_ 4 _ rfl
  go_wp2_with fail
  refine (one_any _ _ _ _ _ _ 3 _ HD4.out.cur (by omega) (by decide) (by decide)).mono ?_
  rintro e w5 ⟨q, rfl, hc, hg⟩
  have HD5 := Lib.hid (HD4.out.draw hA2 hB2 hc hg)
  have hsz5 : W4.heap.size ≤ w5.heap.size := hg.size
  clear hc hg HD4 a4
  have a4 := HD5.out.xa.at_ 4 _ rfl
  rcases q with _ | _
  · go_upto_region 8 with fail
    clear a4
    have hbb : w3.heap.size ≠ w.heap.size + 2 := by omega
    have hbr : w.heap.size ≠ w.heap.size + 2 := by omega
    have hP := plan8_ok (w.heap.size + 2) (w3.heap.size) (w3.heap.size + 1) w.heap.size (w.heap.size + 1)
    have hsA := HD5.out.za.1
    have hsB := HD5.out.zb.1
    refine region_inv (by kernel_rfl) (by kernel_rfl) (Sv w.heap.size A n c (w.heap.size + 2) ida spa tma Ra ma ca w 3000 62 (fix8 (w.heap.size + 2) (w3.heap.size) (w3.heap.size + 1) w.heap.size (w.heap.size + 1)) plan8 (w3.heap.size) w.heap.size (fun V => (OwnL V (w.heap.size + 3) hA Ra ma la ∧ hA ≤ V.heap.size) ∧ OwnL V (w.heap.size + 3) (w3.heap.size) Rb mb lb ∧ (w3.heap.size) ≤ V.heap.size) [w.heap.size, w.heap.size + 1] ⟨w3.heap.size + 1, w.heap.size + 1, idb, tmb, spb, Rb, mb, cb⟩) ?_ ?_ ?_
    · intro fuel listed a W hS i o ho hf hd
      have hi : i < 13 := (Array.getElem?_eq_some_iff.1 ho).1
      obtain rfl | rfl | rfl | rfl | rfl | rfl | rfl | rfl | rfl | rfl | rfl | rfl | rfl : i = 0 ∨ i = 1 ∨ i = 2 ∨ i = 3 ∨ i = 4 ∨ i = 5 ∨ i = 6 ∨ i = 7 ∨ i = 8 ∨ i = 9 ∨ i = 10 ∨ i = 11 ∨ i = 12 := by omega
      · exact hS.load hP hbb hbr ho (d := 52) (t := 6) (by kernel_rfl) (by simp [fix8]) rfl
      · exact hS.loadB hP hbb hbr ho (d := 53) (t := 7) (by kernel_rfl) (by simp [fix8]) rfl
      · exact hS.move hP hbb hbr ho (d := 54) (t := 5) (by kernel_rfl) (by simp [fix8]) rfl
      · exact hS.build hP hbb hbr ho (d := 55) (xs := [0, 1, 200, 1000, 2000, -1, 2001]) (p := .buildSlice 36 7 #[(0, .const (.int .i64 0)), (1, .const (.int .i64 1)), (2, .const (.int .i64 200)), (3, .const (.int .i64 1000)), (4, .const (.int .i64 2000)), (5, .const (Value.int IntKind.i64 (-1))), (6, .const (.int .i64 2001))]) (by kernel_rfl) (fun o a W ho => by simp [execOp, ho, go_sem]) rfl
      · exact hS.move hP hbb hbr ho (d := 56) (t := 5) (by kernel_rfl) (by simp [fix8]) rfl
      · exact hS.pick hP hbb hbr ho (by omega) (d := 57) (t := 56) (ts := #[97, 3]) (by kernel_rfl) (j := 4) rfl (dep_of (j := 4) (by kernel_rfl) ho hd) rfl
      · exact hS.quo hP hbb hbr ho (d := 58) (t := 57) (by kernel_rfl) (j := 5) rfl (dep_of (j := 5) (by kernel_rfl) ho hd) rfl
      · exact hS.add hP hbb hbr ho (m := 5) (by omega) (d := 59) (t := 58) (by kernel_rfl) (j := 6) rfl (dep_of (j := 6) (by kernel_rfl) ho hd) rfl
      · exact hS.slice hP hbb hbr ho (m := 5) (xs := [0, 1, 200, 1000, 2000, -1, 2001]) (by omega) (by decide) (by decide) (d := 60) (t := 55) (s := 59) (by kernel_rfl) (j := 3) rfl (dep_of (j := 3) (by kernel_rfl) ho hd) (j' := 7) rfl (dep_of (j := 7) (by kernel_rfl) ho hd) rfl
      · exact hS.among hP hbb hbr ho (by omega) (xs := [0, 1, 200, 1000, 2000, -1, 2001]) (by decide) (d := 61) (t := 54) (s := 60) (ts := #[97, 36]) (by kernel_rfl) (j := 2) rfl (dep_of (j := 2) (by kernel_rfl) ho hd) (j' := 8) rfl (dep_of (j := 8) (by kernel_rfl) ho hd) rfl
      · exact hS.store (by omega) hbr (Nat.le_refl _) (Nat.le_refl _) ho (t := 2) (s := 52) (by kernel_rfl) (by simp [fix8]) (j := 0) rfl (dep_of (j := 0) (by kernel_rfl) ho hd) rfl
      · exact hS.storeB (by show _ ≠ w.heap.size + 1; omega) (by show w3.heap.size + 1 ≠ w.heap.size + 1; omega) (by show _ ≤ w.heap.size + 1; omega) (by show _ ≤ w.heap.size + 1; omega) (by simp) ho (t := 3) (s := 53) (by kernel_rfl) (by simp [fix8]) (j := 1) rfl (dep_of (j := 1) (by kernel_rfl) ho hd) rfl
      · exact hS.assign hP hbb hbr ho (d := 4) (t := 61) (by kernel_rfl) (j := 9) rfl (dep_of (j := 9) (by kernel_rfl) ho hd) rfl
    · intro fuel listed a W hS hall
      have hRW := hS.kept.1
      obtain ⟨x, ex⟩ := hS.slots 12 4 .any rfl (hall 12 (by decide))
      have ex' : a.tmps[4]?.getD undef = .int .i64 x := by simpa using ex
      have ep := hS.fix (2, .pointer (some ⟨w.heap.size, 0, none⟩)) (by simp [fix8])
      have ep' : a.tmps[2]?.getD undef = .pointer (some ⟨w.heap.size, 0, none⟩) := by simpa using ep
      have eq := hS.fix (3, .pointer (some ⟨w.heap.size + 1, 0, none⟩)) (by simp [fix8])
      have eq' : a.tmps[3]?.getD undef = .pointer (some ⟨w.heap.size + 1, 0, none⟩) := by simpa using eq
      obtain ⟨cs, hcs, h7, hcv⟩ := hS.res
      obtain rfl := hcv 10 rfl (hall 10 (by decide))
      obtain ⟨cs2, hcs2, h72, hcv2⟩ := hS.res2
      obtain rfl := hcv2 11 rfl (hall 11 (by decide))
      have r0 := hcs.at_ 0 _ rfl
      have r1 := hcs.at_ 1 _ rfl
      have r2 := hcs.at_ 2 _ rfl
      have r3 := hcs.at_ 3 _ rfl
      have r4 := hcs.at_ 4 _ rfl
      have s0 := hcs2.at_ 0 _ rfl
      have s1 := hcs2.at_ 1 _ rfl
      have s2 := hcs2.at_ 2 _ rfl
      have s3 := hcs2.at_ 3 _ rfl
      have s4 := hcs2.at_ 4 _ rfl
      dsimp only at s0 s1 s2 s3 s4
      have HBw := Lib.hid (below_of (Below.refl w.heap.size w) hS.grown (Nat.le_refl _) (by omega))
      have HRA := Lib.hid (hRW.1.1.wide (show w.heap.size ≤ w.heap.size + 3 by omega) hRW.1.2)
      have HRB := Lib.hid (hRW.2.1.wide (show w.heap.size ≤ w.heap.size + 3 by omega) hRW.2.2)
      have hdf := hS.defers
      clear hS hall hcv h7 ep eq hRW hP hcv2 h72
      go_wp2_with fail
      refine bodyPost_ret (v := .tuple #[.agg #[.int .i64 ida, .int .i64 tma, .int .i64 spa.1, .int .i64 spa.2, .slice Ra ma ca], .agg #[.int .i64 idb, .int .i64 tmb, .int .i64 spb.1, .int .i64 spb.2, .slice Rb mb cb], .int .i64 x]) (by simp [results, Try.results63, go_sem, ep', eq', ex', r0, r1, r2, r3, r4, s0, s1, s2, s3, s4]) hdf ⟨ida, tma, spa, Ra, ma, ca, la, idb, tmb, spb, Rb, mb, cb, lb, x, rfl, ⟨HLA.out.1, HLA.out.2, HRA.out, HBw.out⟩, ⟨HLB.out.1, HLB.out.2, HRB.out, HBw.out⟩⟩
    · refine ⟨by simp, rfl, ?_, fun i d K hi hl => (rep_no' hl).elim, ⟨(k3 + 1), by show (k3 + 1) + 3 * 13 ≤ 3000; omega, HD5.out.cur.drew_'⟩, ?_, HD5.out.xa.drew, ⟨⟨HD5.out.ra, HD5.out.rb⟩, ?_⟩, ⟨by simp, ?_⟩, ⟨_, HD5.out.za.drew, rfl, fun i _ hl => (rep_no' hl).elim⟩, HD5.out.xb.drew, ⟨_, HD5.out.zb.drew, rfl, fun i _ hl => (rep_no' hl).elim⟩, ⟨by show w3.heap.size + 1 ≠ w.heap.size + 2; omega, by show w.heap.size + 1 ≠ w.heap.size + 2; omega, by show w3.heap.size + 1 ≠ w.heap.size; omega, by show w.heap.size + 1 ≠ w.heap.size; omega⟩⟩
      · intro p hp
        simp only [fix8, List.mem_cons, List.not_mem_nil, or_false] at hp
        rcases hp with rfl | rfl | rfl | rfl | rfl <;> simp
      · have hB := HD5.out.bel
        exact ⟨hB.os, hB.tape, hB.output, hB.size, fun i hi _ => hB.block i hi⟩
      · intro V V' q hg hq h
        have hq3 : q < w.heap.size + 3 := by rcases hq with rfl | rfl | hq <;> (try simp only at hq) <;> omega
        exact ⟨⟨h.1.1.keep hg h.1.2 (fun g' hR e => by have h1 := (h.1.1.2 g' hR).1; have h2 := Option.some.inj e; omega), Nat.le_trans h.1.2 hg.size⟩, h.2.1.keep hg h.2.2 (fun g' hR e => by have h1 := (h.2.1.2 g' hR).1; have h2 := Option.some.inj e; omega), Nat.le_trans h.2.2 hg.size⟩
      · intro q hq
        simp only [List.mem_cons, List.not_mem_nil, or_false] at hq
        show q < w5.heap.size
        rcases hq with rfl | rfl
        · exact hsA
        · exact hsB
  by_cases h0 : ma = 0
  · subst h0
    go_upto_region 8 with fail
    clear a4
    have hbb : w3.heap.size ≠ w.heap.size + 2 := by omega
    have hbr : w.heap.size ≠ w.heap.size + 2 := by omega
    have hP := plan8_ok (w.heap.size + 2) (w3.heap.size) (w3.heap.size + 1) w.heap.size (w.heap.size + 1)
    have hsA := HD5.out.za.1
    have hsB := HD5.out.zb.1
    refine region_inv (by kernel_rfl) (by kernel_rfl) (Sv w.heap.size A n c (w.heap.size + 2) ida spa tma Ra 0 ca w 3000 62 (fix8 (w.heap.size + 2) (w3.heap.size) (w3.heap.size + 1) w.heap.size (w.heap.size + 1)) plan8 (w3.heap.size) w.heap.size (fun V => (OwnL V (w.heap.size + 3) hA Ra 0 la ∧ hA ≤ V.heap.size) ∧ OwnL V (w.heap.size + 3) (w3.heap.size) Rb mb lb ∧ (w3.heap.size) ≤ V.heap.size) [w.heap.size, w.heap.size + 1] ⟨w3.heap.size + 1, w.heap.size + 1, idb, tmb, spb, Rb, mb, cb⟩) ?_ ?_ ?_
    · intro fuel listed a W hS i o ho hf hd
      have hi : i < 13 := (Array.getElem?_eq_some_iff.1 ho).1
      obtain rfl | rfl | rfl | rfl | rfl | rfl | rfl | rfl | rfl | rfl | rfl | rfl | rfl : i = 0 ∨ i = 1 ∨ i = 2 ∨ i = 3 ∨ i = 4 ∨ i = 5 ∨ i = 6 ∨ i = 7 ∨ i = 8 ∨ i = 9 ∨ i = 10 ∨ i = 11 ∨ i = 12 := by omega
      · exact hS.load hP hbb hbr ho (d := 52) (t := 6) (by kernel_rfl) (by simp [fix8]) rfl
      · exact hS.loadB hP hbb hbr ho (d := 53) (t := 7) (by kernel_rfl) (by simp [fix8]) rfl
      · exact hS.move hP hbb hbr ho (d := 54) (t := 5) (by kernel_rfl) (by simp [fix8]) rfl
      · exact hS.build hP hbb hbr ho (d := 55) (xs := [0, 1, 200, 1000, 2000, -1, 2001]) (p := .buildSlice 36 7 #[(0, .const (.int .i64 0)), (1, .const (.int .i64 1)), (2, .const (.int .i64 200)), (3, .const (.int .i64 1000)), (4, .const (.int .i64 2000)), (5, .const (Value.int IntKind.i64 (-1))), (6, .const (.int .i64 2001))]) (by kernel_rfl) (fun o a W ho => by simp [execOp, ho, go_sem]) rfl
      · exact hS.move hP hbb hbr ho (d := 56) (t := 5) (by kernel_rfl) (by simp [fix8]) rfl
      · exact hS.pick hP hbb hbr ho (by omega) (d := 57) (t := 56) (ts := #[97, 3]) (by kernel_rfl) (j := 4) rfl (dep_of (j := 4) (by kernel_rfl) ho hd) rfl
      · exact hS.quo hP hbb hbr ho (d := 58) (t := 57) (by kernel_rfl) (j := 5) rfl (dep_of (j := 5) (by kernel_rfl) ho hd) rfl
      · exact hS.add hP hbb hbr ho (m := 5) (by omega) (d := 59) (t := 58) (by kernel_rfl) (j := 6) rfl (dep_of (j := 6) (by kernel_rfl) ho hd) rfl
      · exact hS.slice hP hbb hbr ho (m := 5) (xs := [0, 1, 200, 1000, 2000, -1, 2001]) (by omega) (by decide) (by decide) (d := 60) (t := 55) (s := 59) (by kernel_rfl) (j := 3) rfl (dep_of (j := 3) (by kernel_rfl) ho hd) (j' := 7) rfl (dep_of (j := 7) (by kernel_rfl) ho hd) rfl
      · exact hS.among hP hbb hbr ho (by omega) (xs := [0, 1, 200, 1000, 2000, -1, 2001]) (by decide) (d := 61) (t := 54) (s := 60) (ts := #[97, 36]) (by kernel_rfl) (j := 2) rfl (dep_of (j := 2) (by kernel_rfl) ho hd) (j' := 8) rfl (dep_of (j := 8) (by kernel_rfl) ho hd) rfl
      · exact hS.store (by omega) hbr (Nat.le_refl _) (Nat.le_refl _) ho (t := 2) (s := 52) (by kernel_rfl) (by simp [fix8]) (j := 0) rfl (dep_of (j := 0) (by kernel_rfl) ho hd) rfl
      · exact hS.storeB (by show _ ≠ w.heap.size + 1; omega) (by show w3.heap.size + 1 ≠ w.heap.size + 1; omega) (by show _ ≤ w.heap.size + 1; omega) (by show _ ≤ w.heap.size + 1; omega) (by simp) ho (t := 3) (s := 53) (by kernel_rfl) (by simp [fix8]) (j := 1) rfl (dep_of (j := 1) (by kernel_rfl) ho hd) rfl
      · exact hS.assign hP hbb hbr ho (d := 4) (t := 61) (by kernel_rfl) (j := 9) rfl (dep_of (j := 9) (by kernel_rfl) ho hd) rfl
    · intro fuel listed a W hS hall
      have hRW := hS.kept.1
      obtain ⟨x, ex⟩ := hS.slots 12 4 .any rfl (hall 12 (by decide))
      have ex' : a.tmps[4]?.getD undef = .int .i64 x := by simpa using ex
      have ep := hS.fix (2, .pointer (some ⟨w.heap.size, 0, none⟩)) (by simp [fix8])
      have ep' : a.tmps[2]?.getD undef = .pointer (some ⟨w.heap.size, 0, none⟩) := by simpa using ep
      have eq := hS.fix (3, .pointer (some ⟨w.heap.size + 1, 0, none⟩)) (by simp [fix8])
      have eq' : a.tmps[3]?.getD undef = .pointer (some ⟨w.heap.size + 1, 0, none⟩) := by simpa using eq
      obtain ⟨cs, hcs, h7, hcv⟩ := hS.res
      obtain rfl := hcv 10 rfl (hall 10 (by decide))
      obtain ⟨cs2, hcs2, h72, hcv2⟩ := hS.res2
      obtain rfl := hcv2 11 rfl (hall 11 (by decide))
      have r0 := hcs.at_ 0 _ rfl
      have r1 := hcs.at_ 1 _ rfl
      have r2 := hcs.at_ 2 _ rfl
      have r3 := hcs.at_ 3 _ rfl
      have r4 := hcs.at_ 4 _ rfl
      have s0 := hcs2.at_ 0 _ rfl
      have s1 := hcs2.at_ 1 _ rfl
      have s2 := hcs2.at_ 2 _ rfl
      have s3 := hcs2.at_ 3 _ rfl
      have s4 := hcs2.at_ 4 _ rfl
      dsimp only at s0 s1 s2 s3 s4
      have HBw := Lib.hid (below_of (Below.refl w.heap.size w) hS.grown (Nat.le_refl _) (by omega))
      have HRA := Lib.hid (hRW.1.1.wide (show w.heap.size ≤ w.heap.size + 3 by omega) hRW.1.2)
      have HRB := Lib.hid (hRW.2.1.wide (show w.heap.size ≤ w.heap.size + 3 by omega) hRW.2.2)
      have hdf := hS.defers
      clear hS hall hcv h7 ep eq hRW hP hcv2 h72
      go_wp2_with fail
      refine bodyPost_ret (v := .tuple #[.agg #[.int .i64 ida, .int .i64 tma, .int .i64 spa.1, .int .i64 spa.2, .slice Ra 0 ca], .agg #[.int .i64 idb, .int .i64 tmb, .int .i64 spb.1, .int .i64 spb.2, .slice Rb mb cb], .int .i64 x]) (by simp [results, Try.results63, go_sem, ep', eq', ex', r0, r1, r2, r3, r4, s0, s1, s2, s3, s4]) hdf ⟨ida, tma, spa, Ra, 0, ca, la, idb, tmb, spb, Rb, mb, cb, lb, x, rfl, ⟨HLA.out.1, HLA.out.2, HRA.out, HBw.out⟩, ⟨HLB.out.1, HLB.out.2, HRB.out, HBw.out⟩⟩
    · refine ⟨by simp, rfl, ?_, fun i d K hi hl => (rep_no' hl).elim, ⟨(k3 + 1), by show (k3 + 1) + 3 * 13 ≤ 3000; omega, HD5.out.cur.drew_'⟩, ?_, HD5.out.xa.drew, ⟨⟨HD5.out.ra, HD5.out.rb⟩, ?_⟩, ⟨by simp, ?_⟩, ⟨_, HD5.out.za.drew, rfl, fun i _ hl => (rep_no' hl).elim⟩, HD5.out.xb.drew, ⟨_, HD5.out.zb.drew, rfl, fun i _ hl => (rep_no' hl).elim⟩, ⟨by show w3.heap.size + 1 ≠ w.heap.size + 2; omega, by show w.heap.size + 1 ≠ w.heap.size + 2; omega, by show w3.heap.size + 1 ≠ w.heap.size; omega, by show w.heap.size + 1 ≠ w.heap.size; omega⟩⟩
      · intro p hp
        simp only [fix8, List.mem_cons, List.not_mem_nil, or_false] at hp
        rcases hp with rfl | rfl | rfl | rfl | rfl <;> simp
      · have hB := HD5.out.bel
        exact ⟨hB.os, hB.tape, hB.output, hB.size, fun i hi _ => hB.block i hi⟩
      · intro V V' q hg hq h
        have hq3 : q < w.heap.size + 3 := by rcases hq with rfl | rfl | hq <;> (try simp only at hq) <;> omega
        exact ⟨⟨h.1.1.keep hg h.1.2 (fun g' hR e => by have h1 := (h.1.1.2 g' hR).1; have h2 := Option.some.inj e; omega), Nat.le_trans h.1.2 hg.size⟩, h.2.1.keep hg h.2.2 (fun g' hR e => by have h1 := (h.2.1.2 g' hR).1; have h2 := Option.some.inj e; omega), Nat.le_trans h.2.2 hg.size⟩
      · intro q hq
        simp only [List.mem_cons, List.not_mem_nil, or_false] at hq
        show q < w5.heap.size
        rcases hq with rfl | rfl
        · exact hsA
        · exact hsB
  obtain ⟨kk, rfl⟩ : ∃ kk, ma = kk + 1 := ⟨ma - 1, by omega⟩
  have hma9 := HLA.out.2
  have hmp : (0 : Int) < (kk + 1 : Nat) := by omega
  obtain ⟨ga, xx, yy, hRA, _⟩ := HD5.out.ra.1.1.2 kk (by omega)
  subst hRA
  have hgaw : ga < w3.heap.size := hRa ga rfl
  have HXA := Lib.hid (own2_cells (HD5.out.alloc (.cells #[] 140)).ra.1.1)
  have HP : Hid ((w5.alloc (.cells #[] 140)).ownsRow w5.heap.size 140 2 (.slice (some ⟨w5.heap.size, 0, none⟩) 0 0) 0 []) := Lib.hid (World.ownsRow_made (base := w5.heap.size) (e := 140) (size := 2) w5 #[] 0 (Nat.le_refl _) (by unfold maxLen; omega) (by simp))
  have HD5a := Lib.hid (HD5.out.alloc (.cells #[] 140))
  go_upto_region 4 with fail
  clear HD5 a4
  have a4 := HD5a.out.xa.at_ 4 _ rfl
  go_upto_region 5 with (at_builtin; go_loud (refine wpList_append_own _ rfl _ _ 62 rfl w5.heap.size 140 i0 (.agg #[.int .i64 0, .int .i64 0]) 2 16 Try.underlying62 HI.out.1 HI.out.2.1 HI.out.2.2.1 HI.out.2.2.2 rfl (by decide) _ _ _ rfl HP.out ⟨ga, 0, none⟩ (kk + 1) ca (cells2 la) rfl (by rw [cells2_lenK, HLA.out.1]) HXA.out (cells2_oneK la) (by unfold maxLen; omega) (by omega) (by simp) ?_; intro v' w6 hown' hgrow hne; simp only [List.nil_append, Nat.zero_add] at hown'; obtain ⟨R2, c2, rfl⟩ := own_slice hown'; have HOW := Lib.hid hown'; have HGR := Lib.hid hgrow; have b4 := (has_grown HD5a.out.xb hgrow (fun e => by have e2 : w3.heap.size + 1 = w5.heap.size := Option.some.inj e; omega)).at_ 4 _ rfl; have fb4 := (has_grown HD5a.out.xb hgrow (fun e => by have e2 : w3.heap.size + 1 = w5.heap.size := Option.some.inj e; omega)).free 4; clear hown' hgrow hne))
  have hzz := HGR.out.size
  simp only [World.size_alloc] at hzz
  have HD6 : Hid (DS A n c w (k3 + 1) w3.heap.size (w3.heap.size + 1) ida tma spa (some ⟨ga, 0, none⟩) (kk + 1) ca la hA idb tmb spb Rb mb cb lb w3.heap.size w6) := by
    refine Lib.hid (HD5a.out.on HGR.out (HD5a.out.cur.kept HGR.out (fun e => by have e2 : w.heap.size + 2 = w5.heap.size := Option.some.inj e; omega) (fun i e => by have e2 : w5.heap.size = i := Option.some.inj e; omega)) (fun q e => ?_))
    have e2 : w5.heap.size = q := Option.some.inj e
    refine ⟨by omega, by omega, by omega, fun e3 => ?_, fun e3 => ?_⟩
    · have := hRa q e3; omega
    · have := hRb q e3; omega
  have hlen := HLA.out.1
  have HOL : Hid (OwnL w6 w5.heap.size w6.heap.size R2 (kk + 1) la) := by
    have h1 := HOW.out
    rw [← hlen] at h1 ⊢
    exact Lib.hid ⟨own2_of_row h1 rfl, TypL.of h1⟩
  obtain ⟨rb, p, y, hR2, hrb1, hrb2, hlk, _⟩ := HOL.out.1.2 kk (by omega)
  subst hR2
  have hne3 : (some ⟨rb, 0, none⟩ : Option Addr) ≠ some ⟨w3.heap.size + 1, 0, none⟩ := fun e => by
    simp only [Option.some.injEq, Addr.mk.injEq, and_true] at e
    omega
  have HD7 := Lib.hid (HD6.out.putB (c' := c2) (by omega) (by omega) (fun e => by have := hRa _ e; omega) (HOL.out.wide (lo' := w.heap.size + 3) (by omega) (Nat.le_refl _)) (Nat.le_refl _) hne3)
  obtain ⟨W7, hW7⟩ : ∃ W, W = w6.setCell ⟨w3.heap.size + 1, 4, none⟩ (.slice (some ⟨rb, 0, none⟩) (kk + 1) c2) := ⟨_, rfl⟩
  rw [← hW7] at HD7 ⊢
  have hs70 : W7.heap.size = w6.heap.size := by rw [hW7]; simp [World.setCell]
  have hy1 : w3.heap.size + 2 ≤ W7.heap.size := by omega
  have hy2 : rb < W7.heap.size := by omega
  clear hs70
  clear hW7 b4 fb4 a4 HD5a HP HXA HOW HGR
  have b4 := HD7.out.xb.at_ 4 _ rfl
  obtain ⟨_, p', y', hR3, _, _, hlk', d0, d1, fd0, fd1⟩ := HD7.out.rb.1.1.2 kk (by omega)
  simp only [Option.some.injEq, Addr.mk.injEq, and_true] at hR3
  subst hR3
  obtain ⟨W8, hW8⟩ : ∃ W, W = W7.alloc (.cells #[.int .i64 p', .int .i64 y'] 140) := ⟨_, rfl⟩
  have HD8 : Hid (DS A n c w (k3 + 1) w3.heap.size (w3.heap.size + 1) ida tma spa (some ⟨ga, 0, none⟩) (kk + 1) ca la hA idb tmb spb (some ⟨rb, 0, none⟩) (kk + 1) c2 la w6.heap.size W8) := by rw [hW8]; exact Lib.hid (HD7.out.alloc _)
  have HY8 : Hid (Has W8 W7.heap.size [.int .i64 p', .int .i64 y']) := by rw [hW8]; exact Lib.hid (by simpa using Has.new W7 #[.int .i64 p', .int .i64 y'] 140)
  have HE8 := Lib.hid hW8
  clear hW8
  go_upto_region 6 with fail
  rw [← HE8.out]
  clear HE8 HD7 b4 d0 d1 fd0 fd1
  have hk1 : k3 + 1 + 3 * 8 ≤ 2900 := by omega
  refine region_m (B := w.heap.size) (A := A) (n := n) (c := c) (g := w.heap.size + 2) (K0 := 2900) (N := 62) (k := k3 + 1) (dst := [some 37, some 38, some 39, some 40, some 41, some 42, some 43, none]) (F := F6 (w.heap.size + 2) W7.heap.size)
    (P := fun V => (∃ k, DS A n c w k w3.heap.size (w3.heap.size + 1) ida tma spa (some ⟨ga, 0, none⟩) (kk + 1) ca la hA idb tmb spb (some ⟨rb, 0, none⟩) (kk + 1) c2 la w6.heap.size V) ∧ ∃ y, Has V W7.heap.size [.int .i64 p', .int .i64 y]) rfl (by kernel_rfl) rfl hk1 HD8.out.cur ⟨⟨_, HD8.out.drew⟩, _, HY8.out.drew⟩ ?_ ?_
  · intro fuel listed a W hS i o ho hf hd
    have hM : planM 62 [some 37, some 38, some 39, some 40, some 41, some 42, some 43, none] = true := by kernel_rfl
    have e8 : a.tmps[8]?.getD undef = .pointer (some ⟨W7.heap.size, 0, none⟩) := by simpa using hS.same 8 (by decide)
    have e5 : a.tmps[5]?.getD undef = .pointer (some ⟨w.heap.size + 2, 0, none⟩) := by simpa using hS.same 5 (by decide)
    obtain ⟨⟨kd, hDS⟩, yv, hHY⟩ := hS.keep
    have hi : i < 8 := (Array.getElem?_eq_some_iff.1 ho).1
    obtain rfl | rfl | rfl | rfl | rfl | rfl | rfl | rfl : i = 0 ∨ i = 1 ∨ i = 2 ∨ i = 3 ∨ i = 4 ∨ i = 5 ∨ i = 6 ∨ i = 7 := by omega
    · have hv := view_of ho (x := (some 37, .fieldAddr 140 (.tmp 8) 1, none)) (by kernel_rfl)
      obtain ⟨_, hp, _⟩ := viewOp_at hv ho
      exact hS.value hM ho hv (.pointer (some ⟨W7.heap.size, 1, none⟩)) (by simp [execOp, hp, e8, go_sem]) rfl rfl
    · have hv := view_of ho (x := (some 38, .load 3 (.tmp 37), none)) (by kernel_rfl)
      obtain ⟨_, hp, _⟩ := viewOp_at hv ho
      have e37 : a.tmps[37]?.getD undef = .pointer (some ⟨W7.heap.size, 1, none⟩) := by simpa using (show a.tmps.getD 37 undef = .pointer (some ⟨W7.heap.size, 1, none⟩) from hS.slots 0 37 rfl (dep_of (j := 0) (by kernel_rfl) ho hd))
      have hc := hHY.at_ 1 _ rfl
      exact hS.value hM ho hv (.int .i64 yv) (by simp [execOp, hp, e37, hc, go_sem]) rfl ⟨_, rfl⟩
    · have hv := view_of ho (x := (some 39, .move (.tmp 5), none)) (by kernel_rfl)
      obtain ⟨_, hp, _⟩ := viewOp_at hv ho
      exact hS.value hM ho hv (.pointer (some ⟨w.heap.size + 2, 0, none⟩)) (by simp [execOp, hp, e5, go_sem]) rfl rfl
    · have hv := view_of ho (x := (some 40, .call { callee := .value (.func 118), args := #[.tmp 39, .const (.int .i64 3)], argTypes := #[97, 3] }, none)) (by kernel_rfl)
      obtain ⟨hdd, hp, hgd⟩ := viewOp_at hv ho
      have e39 : a.tmps[39]?.getD undef = .pointer (some ⟨w.heap.size + 2, 0, none⟩) := by simpa using (show a.tmps.getD 39 undef = .pointer (some ⟨w.heap.size + 2, 0, none⟩) from hS.slots 2 39 rfl (dep_of (j := 2) (by kernel_rfl) ho hd))
      obtain ⟨k, hk, hc⟩ := hS.cur
      refine op_call ho hgd (f := 118) (args := #[.pointer (some ⟨w.heap.size + 2, 0, none⟩), .int .i64 3]) (by simp [execOp, hp, e39, go_sem, enter_any Try.func118 (by kernel_rfl) (by kernel_rfl)]) (pick_any _ A n c _ k 3 W hc (by omega) (by decide) (by decide)) ?_
      rintro e w' ⟨q, hq, rfl, hc', hg'⟩
      refine ⟨_, rfl, ?_⟩
      rw [hdd]
      exact hS.put hM rfl ⟨_, rfl⟩ ⟨⟨_, hDS.draw hA2 hB2 hc' hg'⟩, _, has_grown hHY hg' (fun e => by have := Option.some.inj e; omega)⟩ ⟨k + 1, by omega, hc'⟩
    · have hv := view_of ho (x := (some 41, .binOp .add 3 (.tmp 38) (.tmp 40) 3, none)) (by kernel_rfl)
      obtain ⟨_, hp, _⟩ := viewOp_at hv ho
      obtain ⟨y1, e38⟩ := (show F6 _ _ 1 _ from hS.slots 1 38 rfl (dep_of (j := 1) (by kernel_rfl) ho hd))
      obtain ⟨y2, e40⟩ := (show F6 _ _ 3 _ from hS.slots 3 40 rfl (dep_of (j := 3) (by kernel_rfl) ho hd))
      have e38' : a.tmps[38]?.getD undef = .int .i64 y1 := by simpa using e38
      have e40' : a.tmps[40]?.getD undef = .int .i64 y2 := by simpa using e40
      exact hS.value hM ho hv (.int .i64 (IntKind.i64.wrap (y1 + y2))) (by simp [execOp, hp, e38', e40', go_sem]) rfl ⟨_, rfl⟩
    · have hv := view_of ho (x := (some 42, .call { callee := .value (.func 90), args := #[.const (.int .i64 16000), .tmp 41], argTypes := #[3, 3] }, none)) (by kernel_rfl)
      obtain ⟨hdd, hp, hgd⟩ := viewOp_at hv ho
      obtain ⟨y1, e41⟩ := (show F6 _ _ 4 _ from hS.slots 4 41 rfl (dep_of (j := 4) (by kernel_rfl) ho hd))
      have e41' : a.tmps[41]?.getD undef = .int .i64 y1 := by simpa using e41
      refine op_call ho hgd (f := 90) (args := #[.int .i64 16000, .int .i64 y1]) (by simp [execOp, hp, e41', go_sem, enter_any Try.func90 (by kernel_rfl) (by kernel_rfl)]) (least_any 16000 y1 W) ?_
      rintro e w' ⟨rfl, rfl⟩
      refine ⟨_, rfl, ?_⟩
      rw [hdd]
      exact hS.put hM rfl ⟨_, rfl⟩ hS.keep hS.cur'
    · have hv := view_of ho (x := (some 43, .fieldAddr 140 (.tmp 8) 1, none)) (by kernel_rfl)
      obtain ⟨_, hp, _⟩ := viewOp_at hv ho
      exact hS.value hM ho hv (.pointer (some ⟨W7.heap.size, 1, none⟩)) (by simp [execOp, hp, e8, go_sem]) rfl rfl
    · have hv := view_of ho (x := (none, .store 3 (.tmp 43) (.tmp 42), none)) (by kernel_rfl)
      obtain ⟨hdd, hp, hgd⟩ := viewOp_at hv ho
      have e43 : a.tmps[43]?.getD undef = .pointer (some ⟨W7.heap.size, 1, none⟩) := by simpa using (show a.tmps.getD 43 undef = .pointer (some ⟨W7.heap.size, 1, none⟩) from hS.slots 6 43 rfl (dep_of (j := 6) (by kernel_rfl) ho hd))
      obtain ⟨y1, e42⟩ := (show F6 _ _ 5 _ from hS.slots 5 42 rfl (dep_of (j := 5) (by kernel_rfl) ho hd))
      have e42' : a.tmps[42]?.getD undef = .int .i64 y1 := by simpa using e42
      have hc := hHY.at_ 1 _ rfl
      have hfr := hHY.free 1
      refine op_skip ho hgd (W' := W.setCell ⟨W7.heap.size, 1, none⟩ (.int .i64 y1)) (by simp [execOp, hp, e43, e42', hc, hfr, go_sem]) ?_
      rw [hdd]
      have hgs := set_grown W W7.heap.size 1 (.int .i64 y1)
      obtain ⟨k, hk, hcu⟩ := hS.cur
      have hcu' := hcu.set (gb := W7.heap.size) (by omega) (by omega) 1 (.int .i64 y1)
      refine hS.skip rfl ⟨⟨_, hDS.on hgs (hDS.cur.set (gb := W7.heap.size) (by omega) (by omega) 1 (.int .i64 y1)) (fun q e => ?_)⟩, _, hHY.set 1 (.int .i64 y1)⟩ ⟨k, by omega, hcu'⟩
      have e2 : W7.heap.size = q := Option.some.inj e
      refine ⟨by omega, by omega, by omega, fun e3 => ?_, fun e3 => ?_⟩
      · have := hRa q e3; omega
      · simp only [Option.some.injEq, Addr.mk.injEq, and_true] at e3; omega
  · intro vs W9 k9 hk9 hc9 hP9
    obtain ⟨⟨kd, hDS⟩, y9, hHY⟩ := hP9
    have HD9 : Hid (DS A n c w k9 w3.heap.size (w3.heap.size + 1) ida tma spa (some ⟨ga, 0, none⟩) (kk + 1) ca la hA idb tmb spb (some ⟨rb, 0, none⟩) (kk + 1) c2 la w6.heap.size W9) := Lib.hid { hDS with cur := hc9 }
    have HY9 := Lib.hid hHY
    clear hDS hHY hc9 HD8 HY8
    simp only [patch, slotsN, List.filterMap_cons, List.filterMap_nil, id, List.map_cons, List.map_nil, List.foldl_cons, List.foldl_nil, List.set_cons_zero, List.set_cons_succ]
    have b4 := HD9.out.xb.at_ 4 _ rfl
    have t0 := HY9.out.at_ 0 _ rfl
    have t1 := HY9.out.at_ 1 _ rfl
    obtain ⟨_, p2, y2, hR3, _, _, _, d0, d1, fd0, fd1⟩ := HD9.out.rb.1.1.2 kk (by omega)
    simp only [Option.some.injEq, Addr.mk.injEq, and_true] at hR3
    subst hR3
    have HD10 := Lib.hid (HD9.out.setB (j := kk) (by omega) (by omega) (by omega) (by omega) (fun e => by have := hRa _ e; omega) p' y9)
    obtain ⟨W10, hW10⟩ : ∃ W, W = (W9.setCell ⟨rb, kk * 2, none⟩ (.int .i64 p')).setCell ⟨rb, kk * 2 + 1, none⟩ (.int .i64 y9) := ⟨_, rfl⟩
    rw [← hW10] at HD10
    have HE10 := Lib.hid hW10
    have HLBX := Lib.hid (And.intro (show (la.set kk (p', y9)).length = kk + 1 by rw [List.length_set]; exact hlen) hma9)
    clear hW10
    go_upto_region 8 with fail
    rw [← HE10.out]
    clear HE10 HD9 HY9 b4 t0 t1 d0 d1 fd0 fd1
    have hbb : w3.heap.size ≠ w.heap.size + 2 := by omega
    have hbr : w.heap.size ≠ w.heap.size + 2 := by omega
    have hP := plan8_ok (w.heap.size + 2) (w3.heap.size) (w3.heap.size + 1) w.heap.size (w.heap.size + 1)
    have hsA := HD10.out.za.1
    have hsB := HD10.out.zb.1
    refine region_inv (by kernel_rfl) (by kernel_rfl) (Sv w.heap.size A n c (w.heap.size + 2) ida spa tma (some ⟨ga, 0, none⟩) (kk + 1) ca w 3000 62 (fix8 (w.heap.size + 2) (w3.heap.size) (w3.heap.size + 1) w.heap.size (w.heap.size + 1)) plan8 (w3.heap.size) w.heap.size (fun V => (OwnL V (w.heap.size + 3) hA (some ⟨ga, 0, none⟩) (kk + 1) la ∧ hA ≤ V.heap.size) ∧ OwnL V (w.heap.size + 3) (w6.heap.size) (some ⟨rb, 0, none⟩) (kk + 1) (la.set kk (p', y9)) ∧ (w6.heap.size) ≤ V.heap.size) [w.heap.size, w.heap.size + 1] ⟨w3.heap.size + 1, w.heap.size + 1, idb, tmb, spb, (some ⟨rb, 0, none⟩), (kk + 1), c2⟩) ?_ ?_ ?_
    · intro fuel listed a W hS i o ho hf hd
      have hi : i < 13 := (Array.getElem?_eq_some_iff.1 ho).1
      obtain rfl | rfl | rfl | rfl | rfl | rfl | rfl | rfl | rfl | rfl | rfl | rfl | rfl : i = 0 ∨ i = 1 ∨ i = 2 ∨ i = 3 ∨ i = 4 ∨ i = 5 ∨ i = 6 ∨ i = 7 ∨ i = 8 ∨ i = 9 ∨ i = 10 ∨ i = 11 ∨ i = 12 := by omega
      · exact hS.load hP hbb hbr ho (d := 52) (t := 6) (by kernel_rfl) (by simp [fix8]) rfl
      · exact hS.loadB hP hbb hbr ho (d := 53) (t := 7) (by kernel_rfl) (by simp [fix8]) rfl
      · exact hS.move hP hbb hbr ho (d := 54) (t := 5) (by kernel_rfl) (by simp [fix8]) rfl
      · exact hS.build hP hbb hbr ho (d := 55) (xs := [0, 1, 200, 1000, 2000, -1, 2001]) (p := .buildSlice 36 7 #[(0, .const (.int .i64 0)), (1, .const (.int .i64 1)), (2, .const (.int .i64 200)), (3, .const (.int .i64 1000)), (4, .const (.int .i64 2000)), (5, .const (Value.int IntKind.i64 (-1))), (6, .const (.int .i64 2001))]) (by kernel_rfl) (fun o a W ho => by simp [execOp, ho, go_sem]) rfl
      · exact hS.move hP hbb hbr ho (d := 56) (t := 5) (by kernel_rfl) (by simp [fix8]) rfl
      · exact hS.pick hP hbb hbr ho (by omega) (d := 57) (t := 56) (ts := #[97, 3]) (by kernel_rfl) (j := 4) rfl (dep_of (j := 4) (by kernel_rfl) ho hd) rfl
      · exact hS.quo hP hbb hbr ho (d := 58) (t := 57) (by kernel_rfl) (j := 5) rfl (dep_of (j := 5) (by kernel_rfl) ho hd) rfl
      · exact hS.add hP hbb hbr ho (m := 5) (by omega) (d := 59) (t := 58) (by kernel_rfl) (j := 6) rfl (dep_of (j := 6) (by kernel_rfl) ho hd) rfl
      · exact hS.slice hP hbb hbr ho (m := 5) (xs := [0, 1, 200, 1000, 2000, -1, 2001]) (by omega) (by decide) (by decide) (d := 60) (t := 55) (s := 59) (by kernel_rfl) (j := 3) rfl (dep_of (j := 3) (by kernel_rfl) ho hd) (j' := 7) rfl (dep_of (j := 7) (by kernel_rfl) ho hd) rfl
      · exact hS.among hP hbb hbr ho (by omega) (xs := [0, 1, 200, 1000, 2000, -1, 2001]) (by decide) (d := 61) (t := 54) (s := 60) (ts := #[97, 36]) (by kernel_rfl) (j := 2) rfl (dep_of (j := 2) (by kernel_rfl) ho hd) (j' := 8) rfl (dep_of (j := 8) (by kernel_rfl) ho hd) rfl
      · exact hS.store (by omega) hbr (Nat.le_refl _) (Nat.le_refl _) ho (t := 2) (s := 52) (by kernel_rfl) (by simp [fix8]) (j := 0) rfl (dep_of (j := 0) (by kernel_rfl) ho hd) rfl
      · exact hS.storeB (by show _ ≠ w.heap.size + 1; omega) (by show w3.heap.size + 1 ≠ w.heap.size + 1; omega) (by show _ ≤ w.heap.size + 1; omega) (by show _ ≤ w.heap.size + 1; omega) (by simp) ho (t := 3) (s := 53) (by kernel_rfl) (by simp [fix8]) (j := 1) rfl (dep_of (j := 1) (by kernel_rfl) ho hd) rfl
      · exact hS.assign hP hbb hbr ho (d := 4) (t := 61) (by kernel_rfl) (j := 9) rfl (dep_of (j := 9) (by kernel_rfl) ho hd) rfl
    · intro fuel listed a W hS hall
      have hRW := hS.kept.1
      obtain ⟨x, ex⟩ := hS.slots 12 4 .any rfl (hall 12 (by decide))
      have ex' : a.tmps[4]?.getD undef = .int .i64 x := by simpa using ex
      have ep := hS.fix (2, .pointer (some ⟨w.heap.size, 0, none⟩)) (by simp [fix8])
      have ep' : a.tmps[2]?.getD undef = .pointer (some ⟨w.heap.size, 0, none⟩) := by simpa using ep
      have eq := hS.fix (3, .pointer (some ⟨w.heap.size + 1, 0, none⟩)) (by simp [fix8])
      have eq' : a.tmps[3]?.getD undef = .pointer (some ⟨w.heap.size + 1, 0, none⟩) := by simpa using eq
      obtain ⟨cs, hcs, h7, hcv⟩ := hS.res
      obtain rfl := hcv 10 rfl (hall 10 (by decide))
      obtain ⟨cs2, hcs2, h72, hcv2⟩ := hS.res2
      obtain rfl := hcv2 11 rfl (hall 11 (by decide))
      have r0 := hcs.at_ 0 _ rfl
      have r1 := hcs.at_ 1 _ rfl
      have r2 := hcs.at_ 2 _ rfl
      have r3 := hcs.at_ 3 _ rfl
      have r4 := hcs.at_ 4 _ rfl
      have s0 := hcs2.at_ 0 _ rfl
      have s1 := hcs2.at_ 1 _ rfl
      have s2 := hcs2.at_ 2 _ rfl
      have s3 := hcs2.at_ 3 _ rfl
      have s4 := hcs2.at_ 4 _ rfl
      dsimp only at s0 s1 s2 s3 s4
      have HBw := Lib.hid (below_of (Below.refl w.heap.size w) hS.grown (Nat.le_refl _) (by omega))
      have HRA := Lib.hid (hRW.1.1.wide (show w.heap.size ≤ w.heap.size + 3 by omega) hRW.1.2)
      have HRB := Lib.hid (hRW.2.1.wide (show w.heap.size ≤ w.heap.size + 3 by omega) hRW.2.2)
      have hdf := hS.defers
      clear hS hall hcv h7 ep eq hRW hP hcv2 h72
      go_wp2_with fail
      refine bodyPost_ret (v := .tuple #[.agg #[.int .i64 ida, .int .i64 tma, .int .i64 spa.1, .int .i64 spa.2, .slice (some ⟨ga, 0, none⟩) (kk + 1) ca], .agg #[.int .i64 idb, .int .i64 tmb, .int .i64 spb.1, .int .i64 spb.2, .slice (some ⟨rb, 0, none⟩) (kk + 1) c2], .int .i64 x]) (by simp [results, Try.results63, go_sem, ep', eq', ex', r0, r1, r2, r3, r4, s0, s1, s2, s3, s4]) hdf ⟨ida, tma, spa, (some ⟨ga, 0, none⟩), (kk + 1), ca, la, idb, tmb, spb, (some ⟨rb, 0, none⟩), (kk + 1), c2, (la.set kk (p', y9)), x, rfl, ⟨HLA.out.1, HLA.out.2, HRA.out, HBw.out⟩, ⟨HLBX.out.1, HLBX.out.2, HRB.out, HBw.out⟩⟩
    · refine ⟨by simp, rfl, ?_, fun i d K hi hl => (rep_no' hl).elim, ⟨k9, by show k9 + 3 * 13 ≤ 3000; omega, HD10.out.cur.drew_'⟩, ?_, HD10.out.xa.drew, ⟨⟨HD10.out.ra, HD10.out.rb⟩, ?_⟩, ⟨by simp, ?_⟩, ⟨_, HD10.out.za.drew, rfl, fun i _ hl => (rep_no' hl).elim⟩, HD10.out.xb.drew, ⟨_, HD10.out.zb.drew, rfl, fun i _ hl => (rep_no' hl).elim⟩, ⟨by show w3.heap.size + 1 ≠ w.heap.size + 2; omega, by show w.heap.size + 1 ≠ w.heap.size + 2; omega, by show w3.heap.size + 1 ≠ w.heap.size; omega, by show w.heap.size + 1 ≠ w.heap.size; omega⟩⟩
      · intro p hp
        simp only [fix8, List.mem_cons, List.not_mem_nil, or_false] at hp
        rcases hp with rfl | rfl | rfl | rfl | rfl <;> simp
      · have hB := HD10.out.bel
        exact ⟨hB.os, hB.tape, hB.output, hB.size, fun i hi _ => hB.block i hi⟩
      · intro V V' q hg hq h
        have hq3 : q < w.heap.size + 3 := by rcases hq with rfl | rfl | hq <;> (try simp only at hq) <;> omega
        exact ⟨⟨h.1.1.keep hg h.1.2 (fun g' hR e => by have h1 := (h.1.1.2 g' hR).1; have h2 := Option.some.inj e; omega), Nat.le_trans h.1.2 hg.size⟩, h.2.1.keep hg h.2.2 (fun g' hR e => by have h1 := (h.2.1.2 g' hR).1; have h2 := Option.some.inj e; omega), Nat.le_trans h.2.2 hg.size⟩
      · intro q hq
        simp only [List.mem_cons, List.not_mem_nil, or_false] at hq
        show q < W10.heap.size
        rcases hq with rfl | rfl
        · exact hsA
        · exact hsB
end Go.Proofs.Ytdmnkmdlochogab
