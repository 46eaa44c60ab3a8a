/-
  Times that are drawn: contract of spec.l1Cur.timeOf over this translation. Conditions: stated at each theorem.
-/
import Derived.Test.YtdmnkmdlochogaaDt
import Derived.Deep.RegionHeld3
namespace Go.Proofs.Ytdmnkmdlochogaa
open Go.RowKit Go.Sort

/-- The times of a row that the reader's block does not hold. -/
def Tms (g : Nat) (R : Option Addr) (m : Nat) (W : World) : Prop :=
  ∀ k, k < m → ∃ (gb : Nat) (x : Int), R = some ⟨gb, 0, none⟩ ∧ gb ≠ g ∧ gb < W.heap.size ∧ 0 ≤ x ∧ x ≤ 20000 ∧ W.cell? ⟨gb, k * 2, none⟩ = some (.int .i64 x)
theorem Tms.grown {g : Nat} {R : Option Addr} {m : Nat} {W W' : World} (h : Tms g R m W) (hg : W.grownBy W' (some g)) : Tms g R m W' := fun k hk => by
  obtain ⟨gb, x, hR, hne, hlt, h0, h1, hc⟩ := h k hk
  exact ⟨gb, x, hR, hne, Nat.lt_of_lt_of_le hlt hg.size, h0, h1, (World.cell?_of_block (a := ⟨gb, k * 2, none⟩) (hg.block gb hlt (fun e => hne (Option.some.inj e)))).trans hc⟩
-- beside 50
theorem TGrow.tms {B : Nat} {A : Option Addr} {n c g k m cap : Nat} {w W : World} {R : Option Addr} (h : TGrow B A n c g w R m cap k 20000 W) : Tms g R m W := fun j hj => by
  obtain ⟨l, hl, ho, _, _, hlt, hb⟩ := h
  obtain ⟨gb, x, y, hA, h1, h2, hlk, c0, _⟩ := (own2_of_row ho hl).2 j hj
  have := hb (x, y) (List.mem_of_getElem? hlk)
  exact ⟨gb, x, hA, by omega, h2, this.1, this.2, c0⟩
theorem Cur.drew {B : Nat} {A : Option Addr} {n c g k : Nat} {w : World} (h : Cur B A n c g k w) : Cur B A n c g k w.drew := ⟨h.code, h.pos, h.seed, h.free1, h.free2, h.row, h.old, h.lt⟩
theorem grown_drew {w W W' : World} {r : Option Nat} (h : w.grownBy W r) (h' : W.drew.grownBy W' r) : w.grownBy W' r := grown_trans h ⟨h'.os, h'.tape, h'.output, h'.size, h'.block⟩
theorem pick_ge (B : Nat) (A : Option Addr) (n c g k m : Nat) (w : World) (h : Cur B A n c g k w) (hk : k < 1000000) (h1 : 0 < m) (h2 : m ≤ 200) :
    Calls Try.prog 163 #[.pointer (some ⟨g, 0, none⟩), .int .i64 m] w fun e w' => ∃ v k' : Nat, v < m ∧ k ≤ k' ∧ k' ≤ k + 1 ∧ e = .returned (.int .i64 v) ∧ Cur B A n c g k' w' ∧ w.grownBy w' (some g) := by
  rcases Nat.lt_or_ge 1 m with h3 | h3
  · refine (pick_any B A n c g k m w h hk h3 h2).mono ?_
    rintro e w' ⟨v, hv, he, hc, hg⟩
    exact ⟨v, k + 1, hv, by omega, by omega, he, hc, hg⟩
  · obtain rfl : m = 1 := by omega
    have HC := Lib.hid h
    clear h h1 h2 h3
    go_enter Try.func163, Try.ntmps163
    go_wp2_with fail
    go_ret
    exact ⟨0, k, by omega, by omega, by omega, rfl, HC.out, ⟨rfl, rfl, rfl, Nat.le_refl _, fun _ _ _ => rfl⟩⟩
theorem has_lits (w : World) (xs : List Int) : Has (w.alloc (.cells (xs.map (Value.int .i64)).toArray 3)) w.heap.size (xs.map (Value.int .i64)) := by
  have h := Has.new w (xs.map (Value.int .i64)).toArray 3
  simpa using h
def TimePost (B : Nat) (A : Option Addr) (n c g k : Nat) (w : World) (e : Ending) (w' : World) : Prop :=
  ∃ (x : Int) (k' : Nat), -1 ≤ x ∧ x ≤ 20030 ∧ k ≤ k' ∧ k' ≤ k + 3 ∧ e = .returned (.int .i64 x) ∧ Cur B A n c g k' w' ∧ w.grownBy w' (some g)
set_option maxRecDepth 20000 in
set_option maxHeartbeats 3200000 in
theorem timeOf_any (B : Nat) (A : Option Addr) (n c g k : Nat) (R : Option Addr) (m cap : Nat) (w : World) (h : Cur B A n c g k w) (hk : k < 900000) (hm : m ≤ 13) (ht : Tms g R m w) :
    Calls Try.prog 101 #[.pointer (some ⟨g, 0, none⟩), .slice R m cap] w (TimePost B A n c g k w) := by
  have HC0 := Lib.hid h
  have HT0 := Lib.hid ht
  clear h ht
  rcases Nat.eq_zero_or_pos m with h0 | h0
  · subst h0
    go_enter Try.func101, Try.ntmps101
    go_wp2_with fail
    refine (among_at (Lim (-1) 10001) _ _ _ _ _ _ _ 5 [-1, 0, 50, 10000, 10001] _ HC0.out rfl (by omega) (by decide) (by decide) (by intro x hx; simp only [List.mem_cons, List.not_mem_nil, or_false] at hx; unfold Lim; omega)).mono ?_
    rintro e w1 ⟨x, hx, rfl, hc, hg⟩
    have HX := Lib.hid (And.intro hc hg)
    obtain ⟨hx1, hx2⟩ := hx
    clear hc hg
    go_wp2_with fail
    go_ret
    exact ⟨x, _, hx1, by omega, by omega, by omega, rfl, HX.out.1, HX.out.2⟩
  have hm0 : ((m : Int) == 0) = false := beq_eq_false_iff_ne.2 (by omega)
  go_enter Try.func101, Try.ntmps101
  go_wp2_with fail
  refine (one_any _ _ _ _ _ _ 10 _ HC0.out (by omega) (by decide) (by decide)).mono ?_
  rintro e w1 ⟨q, rfl, hc, hg⟩
  have HC1 := Lib.hid hc
  have HG1 := Lib.hid hg
  have HT1 := Lib.hid (HT0.out.grown hg)
  clear hc hg
  obtain ⟨gb, x0, rfl, hgb⟩ := HT1.out 0 h0
  clear hgb
  rcases q with _ | _
  · go_wp2_with fail
    go_region_with (first
      | (go_at_call 163
         first
           | (refine (pick_ge _ _ _ _ _ _ m _ HC1.out.drew (by omega) (by omega) (by omega)).mono ?_
              rintro e w2 ⟨v, k2, hv, hk1, hk2, rfl, hc, hg⟩
              have HG2 := Lib.hid (grown_drew HG1.out hg)
              obtain ⟨gb2, x, hR2, hne2, hlt2, hx0, hx1, hcell⟩ := (HT1.out.grown (grown_drew (show w1.grownBy w1 (some g) from ⟨rfl, rfl, rfl, Nat.le_refl _, fun _ _ _ => rfl⟩) hg)) v hv)
           | (refine (pick_ge _ _ _ _ _ _ m _ (HC1.out.drew.alloc _) (by omega) (by omega) (by omega)).mono ?_
              rintro e w2 ⟨v, k2, hv, hk1, hk2, rfl, hc, hg⟩
              have HLT := Lib.hid (has_grown (has_lits w1.drew [0, 0, 1, 7, 15, 30]) hg (fun e => by have := Option.some.inj e; have := HC1.out.lt; simp at *; omega))
              have HG2 := Lib.hid (grown_drew HG1.out (grown_trans (World.grownBy_alloc _ _ _) hg))
              obtain ⟨gb2, x, hR2, hne2, hlt2, hx0, hx1, hcell⟩ := (HT1.out.grown (grown_drew (show w1.grownBy w1 (some g) from ⟨rfl, rfl, rfl, Nat.le_refl _, fun _ _ _ => rfl⟩) (grown_trans (World.grownBy_alloc _ _ _) hg))) v hv)
         have HC2 := Lib.hid hc
         obtain rfl : gb = gb2 := by injection hR2 with h; injection h
         have hcell' : ∀ o, (w2.alloc o).cell? ⟨gb, v * 2, none⟩ = some (.int .i64 x) := fun o => cell_next ((Below.refl _ _).alloc (Nat.le_refl _) o) hcell
         clear hc hg hR2
         dsimp only)
      | (go_at_call 109
         first
           | refine (among_any (Lim 0 30) _ _ _ _ _ _ _ 6 [0, 0, 1, 7, 15, 30] _ HC2.out (by omega) (by decide) (by decide) (fun j x hx => HLT.out.at_ j _ (by rw [List.getElem?_map, hx]; rfl)) HLT.out.1 (by have := HC1.out.lt; show w1.heap.size ≠ g; omega) (by intro x hx; simp only [List.mem_cons, List.not_mem_nil, or_false] at hx; unfold Lim; omega)).mono ?_
           | refine (among_at (Lim 0 30) _ _ _ _ _ _ _ 6 [0, 0, 1, 7, 15, 30] _ HC2.out rfl (by omega) (by decide) (by decide) (by intro x hx; simp only [List.mem_cons, List.not_mem_nil, or_false] at hx; unfold Lim; omega)).mono ?_
         rintro e w3 ⟨y, hy, rfl, hc, hg⟩
         have HX := Lib.hid (And.intro hc (grown_trans HG2.out hg))
         obtain ⟨hy1, hy2⟩ := hy
         have hcell3 : w3.cell? ⟨gb, v * 2, none⟩ = some (.int .i64 x) := (World.cell?_of_block (a := ⟨gb, v * 2, none⟩) (hg.block gb hlt2 (fun e => hne2 (Option.some.inj e)))).trans hcell
         clear hc hg
         dsimp only))
    all_goals
      go_wp2_with fail
      go_simp
      go_ret
      exact ⟨x + y, _, by omega, by omega, by omega, by omega, ret_int (IntWalk.i64_in (x + y) (by omega)), HX.out.1, HX.out.2⟩
  · go_wp2_with fail
    refine (among_at (Lim (-1) 10001) _ _ _ _ _ _ _ 5 [-1, 0, 50, 10000, 10001] _ HC1.out rfl (by omega) (by decide) (by decide) (by intro x hx; simp only [List.mem_cons, List.not_mem_nil, or_false] at hx; unfold Lim; omega)).mono ?_
    rintro e w2 ⟨x, hx, rfl, hc, hg⟩
    have HX := Lib.hid (And.intro hc (grown_trans HG1.out hg))
    obtain ⟨hx1, hx2⟩ := hx
    clear hc hg
    go_wp2_with fail
    go_ret
    exact ⟨x, _, hx1, by omega, by omega, by omega, rfl, HX.out.1, HX.out.2⟩
end Go.Proofs.Ytdmnkmdlochogaa
