/-
  The draw of two curves, two distances and a time: contract of spec.DrawLevelBetween over this translation. Conditions: stated at each theorem.
-/
import Derived.Test.YtdmnkmdlochogaaDd
namespace Go.Proofs.Ytdmnkmdlochogaa
open Go.RowKit Go.Sort

theorem tg_parts {B : Nat} {A : Option Addr} {n c g k m cap : Nat} {w W : World} {R : Option Addr} {b : Int} (h : TGrow B A n c g w R m cap k b W) : (∃ l, Spots W W.heap.size R m l) ∧ w.grownBy W (some g) := by
  obtain ⟨l, hl, ho, _, hg, _⟩ := h
  exact ⟨⟨l, (own2_of_row ho hl).spots (Nat.le_refl _)⟩, hg⟩
/-- A row whose first pair is set anew. -/
theorem spots_set {W : World} {gb m : Nat} {l : List (Int × Int)} (hs : Spots W W.heap.size (some ⟨gb, 0, none⟩) (m + 1) l) (x y : Int) :
    ∃ l', Spots ((W.setCell ⟨gb, 0, none⟩ (.int .i64 x)).setCell ⟨gb, 1, none⟩ (.int .i64 y)) ((W.setCell ⟨gb, 0, none⟩ (.int .i64 x)).setCell ⟨gb, 1, none⟩ (.int .i64 y)).heap.size (some ⟨gb, 0, none⟩) (m + 1) l' := by
  have hl := hs.1
  refine ⟨(x, y) :: l.drop 1, by simp [hl], fun k hk => ?_⟩
  obtain ⟨b, o, x', y', hA, hlt, hlk, h0, h1⟩ := hs.2 k hk
  obtain ⟨rfl, rfl⟩ : gb = b ∧ 0 = o := by injection hA with h; injection h with h h'; exact ⟨h, h'⟩
  have hsz : ((W.setCell ⟨gb, 0, none⟩ (.int .i64 x)).setCell ⟨gb, 1, none⟩ (.int .i64 y)).heap.size = W.heap.size := by simp [World.setCell]
  rcases k with _ | k
  · refine ⟨gb, 0, x, y, rfl, by rw [hsz]; exact hlt, rfl, ?_, ?_⟩
    · exact (World.cell?_setCell_other _ _ _ _ (by simp)).trans (World.cell?_setCell_same _ _ _ (by simpa using h0))
    · exact World.cell?_setCell_same _ _ _ ((World.cell?_setCell_other _ _ _ _ (by simp)).trans (by simpa using h1))
  · refine ⟨gb, 0, x', y', rfl, by rw [hsz]; exact hlt, ?_, ?_, ?_⟩
    · rw [← hlk, List.getElem?_cons_succ, List.getElem?_drop, Nat.add_comm 1 k]
    · exact (World.cell?_setCell_other _ _ _ _ (by simp)).trans ((World.cell?_setCell_other _ _ _ _ (by simp)).trans h0)
    · exact (World.cell?_setCell_other _ _ _ _ (by simp)).trans ((World.cell?_setCell_other _ _ _ _ (by simp)).trans h1)
theorem spots_grown {W W' : World} {g m : Nat} {R : Option Addr} {l : List (Int × Int)} (hs : Spots W W.heap.size R m l) (hne : ∀ gb o, R = some ⟨gb, o, none⟩ → gb ≠ g) (hg : W.grownBy W' (some g)) : Spots W' W'.heap.size R m l :=
  ⟨hs.1, fun k hk => by
    obtain ⟨b, o, x, y, hA, hlt, hlk, h0, h1⟩ := hs.2 k hk
    have hb := hg.block b hlt (fun e => hne b o hA (Option.some.inj e))
    exact ⟨b, o, x, y, hA, Nat.lt_of_lt_of_le hlt hg.size, hlk, (World.cell?_of_block (a := ⟨b, _, none⟩) hb).trans h0, (World.cell?_of_block (a := ⟨b, _, none⟩) hb).trans h1⟩⟩
theorem TGrow.past {B : Nat} {A : Option Addr} {n c g k m cap b5 : Nat} {w W W' : World} {R : Option Addr} {b : Int} (h : TGrow B A n c g w R m cap k b W) (hg : W.grownBy W' (some b5)) (hw : w.heap.size ≤ b5) (hne : ∀ gg, R = some ⟨gg, 0, none⟩ → gg ≠ b5) : TGrow B A n c g w R m cap k b W' := by
  obtain ⟨gb, hR, h1, h2⟩ := h.addr
  obtain ⟨l, hl, ho, hc, hg0, hlt, hbb⟩ := h
  have hB := hc.old
  have hgl := hlt.1
  refine ⟨l, hl, ho.kept (row := some b5) hg (.inr fun e => ?_), hc.kept hg (fun e => by have := Option.some.inj e; omega) (fun i e => by have := Option.some.inj e; omega), ?_, hlt, hbb⟩
  · subst hR
    exact hne gb rfl (Option.some.inj e)
  · exact ⟨hg.os.trans hg0.os, hg.tape.trans hg0.tape, hg.output.trans hg0.output, Nat.le_trans hg0.size hg.size, fun i hi hni => (hg.block i (Nat.lt_of_lt_of_le hi hg0.size) (fun e => by have := Option.some.inj e; omega)).trans (hg0.block i hi hni)⟩
theorem part_of_own {W : World} {B m cap gb : Nat} {T : TypeId} {l : List (Int × Int)} (ho : W.ownsRow B T 2 (.slice (some ⟨gb, 0, none⟩) m cap) m (cells2 l)) (hl : l.length = m) : ∀ j u, (cells2 l)[j]? = some u → W.cell? ((⟨gb, 0, none⟩ : Addr).add j) = some u := fun j u hu => by
  have hj := (List.getElem?_eq_some_iff.1 hu).1
  rw [cells2_len] at hj
  have h1 := ho.cellAt j (by omega)
  have e : (⟨gb, 0, none⟩ : Addr).add j = ⟨gb, j, none⟩ := by unfold Addr.add; split <;> simp_all
  rw [e]
  exact h1.trans hu
theorem own_from {W : World} {B n c z : Nat} {T : TypeId} {R : Option Addr} {xs : List Value} (h : W.ownsRow B T z (.slice R n c) n xs) : ∀ gg o, R = some ⟨gg, o, none⟩ → B ≤ gg := fun gg o hR => by
  have hL := h.lt
  subst hR
  rcases h.2 with ⟨h2, _⟩ | ⟨g3, cap3, cur3, hv3, _⟩
  · injection h2 with e3; cases e3
  · injection hv3 with e3
    injection e3 with e3
    injection e3 with e3
    subst e3
    exact (hL gg rfl).1
theorem cells2_ones (l : List (Int × Int)) : ∀ u ∈ cells2 l, u.oneCell' = true := by
  intro u hu
  unfold cells2 at hu
  obtain ⟨p, _, hp⟩ := List.mem_flatMap.1 hu
  simp only [List.mem_cons, List.not_mem_nil, or_false] at hp
  rcases hp with rfl | rfl <;> rfl
/-- What the draw hands back. -/
def Drawn2 (w : World) (R : Option Addr) (m : Nat) (R2 : Option Addr) (m2 : Nat) (w' : World) : Prop := m ≤ 13 ∧ m2 ≤ 13 ∧ (∃ l, Spots w' w'.heap.size R m l) ∧ (∃ l, Spots w' w'.heap.size R2 m2 l) ∧ Below w.heap.size w w'
set_option maxRecDepth 20000 in
set_option maxHeartbeats 6400000 in
theorem draw_between (A : Option Addr) (n c : Nat) (w : World) (h : CodeRow w.heap.size A n w) : Calls Try.prog 44 #[.slice A n c] w
    fun e w' => ∃ (R : Option Addr) (m cap : Nat) (R2 : Option Addr) (m2 cap2 : Nat) (x y t : Int), e = .returned (.tuple #[.slice R m cap, .slice R2 m2 cap2, .int .i64 x, .int .i64 y, .int .i64 t]) ∧ Drawn2 w R m R2 m2 w' := by
  obtain ⟨i0, hi, hz0, hz1, hz2⟩ := info_parts infoTide2
  have HI := Lib.hid (And.intro hi (And.intro hz0 (And.intro hz1 hz2)))
  clear hi hz0 hz1 hz2
  have HC0 := Lib.hid (cur_new w A n c 118 h)
  clear h
  go_enter Try.func44, Try.ntmps44
  go_wp2_with fail
  refine (tides_any _ _ _ _ _ _ _ HC0.out (by omega)).mono ?_
  rintro e w1 ⟨R, m, cap, k1, hm, hk1, hk2, rfl, hG⟩
  have HG1 := Lib.hid hG
  have HC1 := Lib.hid hG.cur
  clear hG HC0
  go_wp2_with fail
  refine (tides_any _ _ _ _ _ _ _ HC1.out (by omega)).mono ?_
  rintro e w2 ⟨R2, m2, cap2, k2, hm2, hk3, hk4, rfl, hG⟩
  have HH2 := Lib.hid hG
  have HG2 := Lib.hid (HG1.out.draw hG.cur (tg_parts hG).2)
  have HC2 := Lib.hid hG.cur
  clear hG HC1 HG1
  go_wp2_with fail
  refine (one_any _ _ _ _ _ _ 2 _ HC2.out (by omega) (by decide) (by decide)).mono ?_
  rintro e w3 ⟨q, rfl, hc, hg⟩
  have HH3 := Lib.hid (HH2.out.draw hc hg)
  have HG3 := Lib.hid (HG2.out.draw hc hg)
  clear hc hg HC2 HG2 HH2
  rcases q with _ | _
  · skip
    have HCa := Lib.hid HG3.out.cur
    go_wp2_with fail
    refine (among_at (Lim 0 10000) _ _ _ _ _ _ _ 5 [1, 100, 300, 10000, 0] _ HCa.out rfl (by omega) (by decide) (by decide) (by intro x hx; simp only [List.mem_cons, List.not_mem_nil, or_false] at hx; unfold Lim; omega)).mono ?_
    rintro e wa ⟨x, ⟨x1, x2⟩, rfl, hc, hg⟩
    have HGa := Lib.hid (HG3.out.draw hc hg)
    have HCb := Lib.hid hc
    have HHa := Lib.hid (HH3.out.draw hc hg)
    clear hc hg HCa HG3
    go_wp2_with fail
    refine (among_at (Lim 1 10001) _ _ _ _ _ _ _ 4 [1, 200, 10000, 10001] _ HCb.out rfl (by omega) (by decide) (by decide) (by intro x hx; simp only [List.mem_cons, List.not_mem_nil, or_false] at hx; unfold Lim; omega)).mono ?_
    rintro e wb ⟨y, ⟨y1, y2⟩, rfl, hc, hg⟩
    have HGb := Lib.hid (HGa.out.draw hc hg)
    have HCc := Lib.hid hc
    have HHb := Lib.hid (HHa.out.draw hc hg)
    clear hc hg HCb HGa
    go_wp2_with fail
    refine (timeOf_any _ _ _ _ _ _ R m cap _ HCc.out (by omega) hm HGb.out.tms).mono ?_
    rintro e wc ⟨t, k9, t1, t2, hq9, hr9, rfl, hc, hg⟩
    have HGc := Lib.hid (HGb.out.draw hc hg)
    have HHc := Lib.hid (HHb.out.draw hc hg)
    clear hc hg HCc HGb
    go_wp2_with fail
    refine bodyPost_ret (v := .tuple #[.slice R m cap, .slice R2 m2 cap2, .int .i64 x, .int .i64 y, .int .i64 t]) (by simp [results, Try.results44, go_sem]) rfl ⟨R, m, cap, R2, m2, cap2, x, y, t, rfl, hm, hm2, (tg_parts HGc.out).1, (tg_parts HHc.out).1, (drawn_of hm HGc.out).2.2⟩
  · clear HH3
    obtain ⟨gb, hR, hgb1, hgb2⟩ := HG3.out.addr
    subst hR
    obtain ⟨l, hl, ho, hc, hg, hlt, hbb⟩ := HG3.out
    have HPT : Hid (∀ j u, (cells2 l)[j]? = some u → (w3.alloc (.cells #[] 50)).cell? ((⟨gb, 0, none⟩ : Addr).add j) = some u) := Lib.hid fun j u hu => cell_next ((Below.refl _ _).alloc (Nat.le_refl _) _) (part_of_own ho hl j u hu)
    have hcl := hc.lt
    clear ho hc hg hbb hlt
    have hgs : w.heap.size < w3.heap.size := hcl
    have hws : (w.alloc (.cells #[.slice A n c, .int .i64 0, .int .u64 0] 118)).heap.size ≤ w3.heap.size := (tg_parts HG3.out).2.size
    have HE0 : Hid ((w3.alloc (.cells #[] 50)).ownsRow w3.heap.size 50 2 (.slice (some ⟨w3.heap.size, 0, none⟩) 0 0) 0 []) := Lib.hid (World.ownsRow_made (base := w3.heap.size) (e := 50) (size := 2) w3 #[] 0 (Nat.le_refl _) (by unfold maxLen; omega) (by simp))
    have HWS := Lib.hid hws
    clear hws hcl
    rcases m with _ | j
    · go_wp2_with (at_builtin; go_loud (refine wpList_append_own _ rfl _ _ 45 rfl w3.heap.size 50 i0 (.agg #[.int .i64 0, .int .i64 0]) 2 16 Try.underlying45 HI.out.1 HI.out.2.1 HI.out.2.2.1 HI.out.2.2.2 rfl (by decide) _ _ _ rfl HE0.out ⟨gb, 0, none⟩ 0 cap (cells2 l) rfl (by rw [cells2_len, hl]) HPT.out (cells2_ones _) (by unfold maxLen; omega) (by omega) (by simp) ?_; intro v' w5 hown' hgrow _; rw [Nat.zero_add, List.nil_append] at hown'; obtain ⟨R5, cap5, rfl⟩ := own_slice hown'; have hg5 : w3.grownBy w5 (some w3.heap.size) := grown_trans (World.grownBy_alloc _ _ _) hgrow; have HG5 := Lib.hid (HG3.out.past hg5 HWS.out (fun gg e => by injection e with e; injection e with e; omega)); have HNE := Lib.hid (own_from hown'); have HS5 := Lib.hid ((own2_of_row hown' hl).spots (Nat.le_refl _)); clear hown' hgrow hg5))
      have HNE5 : Hid (∀ gg o, R5 = some ⟨gg, o, none⟩ → gg ≠ w.heap.size) := Lib.hid fun gg o h => by have := HNE.out gg o h; omega
      have HCa := Lib.hid HG5.out.cur
      refine (among_at (Lim 0 10000) _ _ _ _ _ _ _ 5 [1, 100, 300, 10000, 0] _ HCa.out rfl (by omega) (by decide) (by decide) (by intro x hx; simp only [List.mem_cons, List.not_mem_nil, or_false] at hx; unfold Lim; omega)).mono ?_
      rintro e wa ⟨x, ⟨x1, x2⟩, rfl, hc, hg⟩
      have HGa := Lib.hid (HG5.out.draw hc hg)
      have HCb := Lib.hid hc
      have HHa := Lib.hid (spots_grown HS5.out HNE5.out hg)
      clear hc hg HCa HG5
      go_wp2_with fail
      refine (among_at (Lim 1 10001) _ _ _ _ _ _ _ 4 [1, 200, 10000, 10001] _ HCb.out rfl (by omega) (by decide) (by decide) (by intro x hx; simp only [List.mem_cons, List.not_mem_nil, or_false] at hx; unfold Lim; omega)).mono ?_
      rintro e wb ⟨y, ⟨y1, y2⟩, rfl, hc, hg⟩
      have HGb := Lib.hid (HGa.out.draw hc hg)
      have HCc := Lib.hid hc
      have HHb := Lib.hid (spots_grown HHa.out HNE5.out hg)
      clear hc hg HCb HGa
      go_wp2_with fail
      refine (timeOf_any _ _ _ _ _ _ (some ⟨gb, 0, none⟩) 0 cap _ HCc.out (by omega) hm HGb.out.tms).mono ?_
      rintro e wc ⟨t, k9, t1, t2, hq9, hr9, rfl, hc, hg⟩
      have HGc := Lib.hid (HGb.out.draw hc hg)
      have HHc := Lib.hid (spots_grown HHb.out HNE5.out hg)
      clear hc hg HCc HGb
      go_wp2_with fail
      refine bodyPost_ret (v := .tuple #[.slice (some ⟨gb, 0, none⟩) 0 cap, .slice R5 0 cap5, .int .i64 x, .int .i64 y, .int .i64 t]) (by simp [results, Try.results44, go_sem]) rfl ⟨some ⟨gb, 0, none⟩, 0, cap, R5, 0, cap5, x, y, t, rfl, hm, hm, (tg_parts HGc.out).1, ⟨_, HHc.out⟩, (drawn_of hm HGc.out).2.2⟩
    · go_wp2_with (at_builtin; go_loud (refine wpList_append_own _ rfl _ _ 45 rfl w3.heap.size 50 i0 (.agg #[.int .i64 0, .int .i64 0]) 2 16 Try.underlying45 HI.out.1 HI.out.2.1 HI.out.2.2.1 HI.out.2.2.2 rfl (by decide) _ _ _ rfl HE0.out ⟨gb, 0, none⟩ (j + 1) cap (cells2 l) rfl (by rw [cells2_len, hl]) HPT.out (cells2_ones _) (by unfold maxLen; omega) (by omega) (by simp) ?_; intro v' w5 hown' hgrow _; rw [Nat.zero_add, List.nil_append] at hown'; obtain ⟨R5, cap5, rfl⟩ := own_slice hown'; have hg5 : w3.grownBy w5 (some w3.heap.size) := grown_trans (World.grownBy_alloc _ _ _) hgrow; have HG5 := Lib.hid (HG3.out.past hg5 HWS.out (fun gg e => by injection e with e; injection e with e; omega)); have HNE := Lib.hid (own_from hown'); have HS5 := Lib.hid ((own2_of_row hown' hl).spots (Nat.le_refl _)); obtain ⟨g5, x0, y0, hA5, hg51, hg52, hl0, c0, c1, f0, f1⟩ := (own2_of_row hown' hl).2 0 (by omega); subst hA5; simp only [Nat.zero_mul, Nat.zero_add] at c0 c1 f0 f1; clear hown' hgrow hg5))
      have HNE5 : Hid (∀ gg o, (some ⟨g5, 0, none⟩ : Option Addr) = some ⟨gg, o, none⟩ → gg ≠ w.heap.size) := Lib.hid fun gg o h => by have := HNE.out gg o h; omega
      obtain ⟨W6, hW6⟩ : ∃ W, W = (w5.setCell ⟨g5, 0, none⟩ (.int .i64 x0)).setCell ⟨g5, 1, none⟩ (.int .i64 40) := ⟨_, rfl⟩
      have HG6 : Hid (TGrow w.heap.size A n c w.heap.size (w.alloc (.cells #[.slice A n c, .int .i64 0, .int .u64 0] 118)) (some ⟨gb, 0, none⟩) (j + 1) cap (k2 + 1) 20000 W6) := by
        rw [hW6]
        exact Lib.hid (HG5.out.past (grown_trans (set_grown _ _ _ _) (set_grown _ _ _ _)) (by have := HWS.out; omega) (fun gg e => by injection e with e; injection e with e; omega))
      obtain ⟨l6, hl6⟩ := spots_set HS5.out x0 40
      rw [← hW6] at hl6
      have HS6 := Lib.hid hl6
      have HE6 := Lib.hid hW6
      clear hW6 hl6 c0 c1 f0 f1
      rw [← HE6.out]
      have HCa := Lib.hid HG6.out.cur
      refine (among_at (Lim 0 10000) _ _ _ _ _ _ _ 5 [1, 100, 300, 10000, 0] _ HCa.out (by rw [HE6.out]; simp [World.setCell]) (by omega) (by decide) (by decide) (by intro x hx; simp only [List.mem_cons, List.not_mem_nil, or_false] at hx; unfold Lim; omega)).mono ?_
      rintro e wa ⟨x, ⟨x1, x2⟩, rfl, hc, hg⟩
      have HGa := Lib.hid (HG6.out.draw hc hg)
      have HCb := Lib.hid hc
      have HHa := Lib.hid (spots_grown HS6.out HNE5.out hg)
      clear hc hg HCa HG6
      go_wp2_with fail
      refine (among_at (Lim 1 10001) _ _ _ _ _ _ _ 4 [1, 200, 10000, 10001] _ HCb.out rfl (by omega) (by decide) (by decide) (by intro x hx; simp only [List.mem_cons, List.not_mem_nil, or_false] at hx; unfold Lim; omega)).mono ?_
      rintro e wb ⟨y, ⟨y1, y2⟩, rfl, hc, hg⟩
      have HGb := Lib.hid (HGa.out.draw hc hg)
      have HCc := Lib.hid hc
      have HHb := Lib.hid (spots_grown HHa.out HNE5.out hg)
      clear hc hg HCb HGa
      go_wp2_with fail
      refine (timeOf_any _ _ _ _ _ _ (some ⟨gb, 0, none⟩) (j + 1) cap _ HCc.out (by omega) hm HGb.out.tms).mono ?_
      rintro e wc ⟨t, k9, t1, t2, hq9, hr9, rfl, hc, hg⟩
      have HGc := Lib.hid (HGb.out.draw hc hg)
      have HHc := Lib.hid (spots_grown HHb.out HNE5.out hg)
      clear hc hg HCc HGb
      go_wp2_with fail
      refine bodyPost_ret (v := .tuple #[.slice (some ⟨gb, 0, none⟩) (j + 1) cap, .slice (some ⟨g5, 0, none⟩) (j + 1) cap5, .int .i64 x, .int .i64 y, .int .i64 t]) (by simp [results, Try.results44, go_sem]) rfl ⟨some ⟨gb, 0, none⟩, (j + 1), cap, (some ⟨g5, 0, none⟩), (j + 1), cap5, x, y, t, rfl, hm, hm, (tg_parts HGc.out).1, ⟨_, HHc.out⟩, (drawn_of hm HGc.out).2.2⟩
end Go.Proofs.Ytdmnkmdlochogaa
