/-
  Contracts of spec.l1Cur.spots and of the draws of laws.FnSpots over this translation. Conditions: stated at each theorem.
-/
import Derived.Test.YtjnimedbjmihaaaDr
namespace Go.Proofs.Ytjnimedbjmihaaa
open Go.RowKit

/-- The cells of a row of spots. -/
def cellsOf : List (Int × Int) → List Value
  | [] => []
  | p :: t => .int .i64 p.1 :: .int .i64 p.2 :: cellsOf t
theorem cellsOf_snoc (l : List (Int × Int)) (x y : Int) : cellsOf (l ++ [(x, y)]) = cellsOf l ++ [.int .i64 x, .int .i64 y] := by
  induction l with
  | nil => rfl
  | cons p t ih => show _ :: _ :: cellsOf (t ++ [(x, y)]) = _; rw [ih]; rfl
theorem cellsOf_at : ∀ (l : List (Int × Int)) (k : Nat) (x y : Int), l[k]? = some (x, y) → (cellsOf l)[k * 2]? = some (.int .i64 x) ∧ (cellsOf l)[k * 2 + 1]? = some (.int .i64 y)
  | [], k, x, y, h => by simp at h
  | p :: t, 0, x, y, h => by
    obtain rfl : p = (x, y) := by simpa using h
    exact ⟨rfl, rfl⟩
  | p :: t, k + 1, x, y, h => by
    have h1 := cellsOf_at t k x y (by simpa using h)
    rw [show (k + 1) * 2 = k * 2 + 1 + 1 by omega]
    exact h1
theorem own_any {W W' : World} {B n : Nat} {T : TypeId} {z : Nat} {v : Value} {xs : List Value} {row : Option Nat} (h : W.ownsRow B T z v n xs) (hg : W.grownBy W' row) (hr : ∀ g, row = some g → g < B) : W'.ownsRow B T z v n xs := by
  refine h.kept (row := row) hg ?_
  by_cases e : v.ownBlock = none
  · exact Or.inl e
  · refine Or.inr fun e2 => ?_
    obtain ⟨g, hg2⟩ := Option.ne_none_iff_exists'.1 e
    have h1 := (h.lt g hg2).1
    have h2 := hr g (e2.symm.trans hg2)
    omega
/-- Where the drawing of a row stands: m spots, the reader at k. -/
def Grow (B : Nat) (A : Option Addr) (n c g : Nat) (w : World) (R : Option Addr) (m cap k : Nat) (W : World) : Prop :=
  ∃ l, l.length = m ∧ W.ownsRow w.heap.size 26 2 (.slice R m cap) m (cellsOf l) ∧ Cur B A n c g k W ∧ w.grownBy W (some g) ∧ g < w.heap.size
theorem grow_start {B : Nat} {A : Option Addr} {n c g k : Nat} {w : World} (h : Cur B A n c g k w) : Grow B A n c g w (some ⟨w.heap.size, 0, none⟩) 0 0 k (w.alloc (.cells #[] 26)) := by
  refine ⟨[], rfl, ?_, h.alloc _, World.grownBy_alloc _ _ _, h.lt⟩
  exact World.ownsRow_made (base := w.heap.size) (e := 26) (size := 2) w #[] 0 (by simp) (by unfold maxLen; omega) (by simp)
theorem Grow.draw {B : Nat} {A : Option Addr} {n c g k k' m cap : Nat} {w W W' : World} {R : Option Addr} (h : Grow B A n c g w R m cap k W) (hc : Cur B A n c g k' W') (hg : W.grownBy W' (some g)) : Grow B A n c g w R m cap k' W' := by
  obtain ⟨l, hl, ho, _, hg0, hlt⟩ := h
  exact ⟨l, hl, own_any ho hg (fun i e => by have := Option.some.inj e; omega), hc, grown_trans hg0 hg, hlt⟩
theorem Grow.alloc {B : Nat} {A : Option Addr} {n c g k m cap : Nat} {w W : World} {R : Option Addr} (h : Grow B A n c g w R m cap k W) (o : Obj) : Grow B A n c g w R m cap k (W.alloc o) := by
  obtain ⟨l, hl, ho, hc, hg0, hlt⟩ := h
  exact ⟨l, hl, ho.alloc _, hc.alloc _, grown_trans hg0 (World.grownBy_alloc _ _ _), hlt⟩
theorem own_slice {W : World} {B n : Nat} {T : TypeId} {z : Nat} {v : Value} {xs : List Value} (h : W.ownsRow B T z v n xs) : ∃ R cap, v = .slice R n cap := by
  rcases h.2 with ⟨h1, h2⟩ | ⟨g, cap, cur, hv, _⟩
  · exact ⟨none, 0, by rw [h1, h2]⟩
  · exact ⟨_, _, hv⟩
theorem two_new (w : World) (x y : Value) (T : TypeId) : ∀ (j : Nat) (u : Value), [x, y][j]? = some u → (w.alloc (.cells #[x, y] T)).cell? ((⟨w.heap.size, 0, none⟩ : Addr).add j) = some u := by
  intro j u hu
  rcases j with _ | _ | j
  · simp [Addr.add, World.cell?_alloc_new] at hu ⊢; exact hu
  · simp [Addr.add, World.cell?_alloc_new] at hu ⊢; exact hu
  · simp at hu
/-- The length of a slice value. -/
def lenOf' : Value → Nat
  | .slice _ m _ => m
  | _ => 0
theorem Grow.step {B : Nat} {A : Option Addr} {n c g k m cap : Nat} {w W W' : World} {R R' : Option Addr} {cap' : Nat} {x y : Int} {l : List (Int × Int)} (hl : l.length = m) (hc : Cur B A n c g k W) (hg0 : w.grownBy W (some g)) (hlt : g < w.heap.size) (h0 : W.ownsRow w.heap.size 26 2 (.slice R m cap) m (cellsOf l))
    (ho : W'.ownsRow w.heap.size 26 2 (.slice R' (m + 1) cap') (m + 1) (cellsOf l ++ [.int .i64 x, .int .i64 y])) (hg : W.grownBy W' (Value.slice R m cap).ownBlock) : Grow B A n c g w R' (m + 1) cap' k W' := by
  have hb : ∀ j, (Value.slice R m cap).ownBlock = some j → w.heap.size ≤ j := fun j hj => (h0.lt j hj).1
  have hB : B ≤ w.heap.size := by have := hc.old; omega
  refine ⟨l ++ [(x, y)], by simp [hl], by rw [cellsOf_snoc]; exact ho, hc.kept hg (fun e => by have := hb g e.symm; omega) (fun i e => by have := hb i e; omega), ?_, hlt⟩
  exact ⟨hg.os.trans hg0.os, hg.tape.trans hg0.tape, hg.output.trans hg0.output, Nat.le_trans hg0.size hg.size, fun i hi hne => (hg.block i (Nat.lt_of_lt_of_le hi hg0.size) (fun e => by have := hb i e.symm; omega)).trans (hg0.block i hi hne)⟩
/-- What spots hands back. -/
def SpotsPost (B : Nat) (A : Option Addr) (n c g k : Nat) (w : World) (e : Ending) (w' : World) : Prop :=
  ∃ (R : Option Addr) (m cap k' : Nat), m ≤ 13 ∧ k ≤ k' ∧ k' ≤ k + 100 ∧ e = .returned (.slice R m cap) ∧ Grow B A n c g w R m cap k' w'
set_option maxRecDepth 20000 in
set_option maxHeartbeats 3200000 in
theorem spots_any (B : Nat) (A : Option Addr) (n c g k : Nat) (w : World) (h : Cur B A n c g k w) (hk : k < 800000) :
    Calls Try.prog 54 #[.pointer (some ⟨g, 0, none⟩)] w (SpotsPost B A n c g k w) := by
  obtain ⟨i0, hi, hz0, hz1, hz2⟩ := info_parts infoSpot
  have HI := Lib.hid (And.intro hi (And.intro hz0 (And.intro hz1 hz2)))
  clear hi hz0 hz1 hz2
  have HG0 := Lib.hid (grow_start h)
  have HC0 := Lib.hid (h.alloc (.cells #[] 26))
  clear h
  go_enter Try.func54, Try.ntmps54
  go_wp2_with fail
  refine (pick_any _ _ _ _ _ _ 8 _ HC0.out (by omega) (by decide) (by decide)).mono ?_
  rintro e w1 ⟨v, hv, rfl, hc, hg⟩
  have HG1 := Lib.hid (HG0.out.draw hc hg)
  clear hc hg HC0 HG0
  go_wp2_with fail
  go_loopw [3, 4] (fun s i wr => ∃ (R : Option Addr) (m cap k' r : Nat), m + r ≤ 7 ∧ k ≤ k' ∧ k' ≤ k + 1 + 4 * m ∧ s = .slice R m cap ∧ i = .int .i64 r ∧ Hid (Grow B A n c g w R m cap k' wr)) (fun _ i _ => (intOf i).toNat)
  case atStart => exact ⟨_, 0, _, k + 1, v, by omega, by omega, by omega, rfl, rfl, HG1⟩
  case round =>
    obtain ⟨R, m, cap, k', r, hmr, hk1, hk2, rfl, rfl, hR⟩ := hrel
    rcases Nat.eq_zero_or_pos r with h0 | h0
    · subst h0
      obtain ⟨l, hl, ho, hc, hg, hlt⟩ := hR.out
      have HC := Lib.hid hc
      clear ho hc hg
      go_wp2_with fail
      refine (one_any _ _ _ _ _ _ 32 _ HC.out (by omega) (by decide) (by decide)).mono ?_
      rintro e w2 ⟨t, rfl, hc, hg⟩
      have HG2 := Lib.hid (hR.out.draw hc hg)
      clear hc hg HC hR
      rcases t with _ | _
      · go_wp2_with fail
        go_ret
        exact ⟨_, _, _, _, by omega, by omega, by omega, rfl, HG2.out⟩
      · go_wp2_with fail
        go_loopw [3] (fun s wr => ∃ (R : Option Addr) (m cap k' : Nat), m ≤ 13 ∧ k ≤ k' ∧ k' ≤ k + 40 + m ∧ s = .slice R m cap ∧ Hid (Grow B A n c g w R m cap k' wr)) (fun s _ => 13 - lenOf' s)
        case atStart => exact ⟨_, m, _, _, by omega, by omega, by omega, rfl, HG2⟩
        case round =>
          obtain ⟨R, m, cap, k3, hm13, hk3, hk4, rfl, hR⟩ := hrel
          obtain ⟨l, hl, ho, hc, hg, hlt⟩ := hR.out
          have HC := Lib.hid hc
          clear ho hc hg hl
          go_wp2_with fail
          refine (pick_any _ _ _ _ _ _ 2 _ HC.out (by omega) (by decide) (by decide)).mono ?_
          rintro e w4 ⟨u, hu, rfl, hc, hg⟩
          have HG3 := Lib.hid (hR.out.draw hc hg)
          clear hc hg HC hR
          by_cases hlt2 : (m : Int) < 12 + u
          · obtain ⟨l, hl, ho, hc, hg, hlt⟩ := HG3.out
            have HC := Lib.hid hc
            have HO := Lib.hid ho
            have HGW := Lib.hid hg
            clear ho hc hg
            go_wp2_with (at_builtin; go_loud (refine wpList_append_own _ rfl _ _ 24 rfl w.heap.size 26 i0 (.agg #[.int .i64 0, .int .i64 0]) 2 16 Try.underlying24 HI.out.1 HI.out.2.1 HI.out.2.2.1 HI.out.2.2.2 rfl (by decide) _ _ _ rfl (HO.out.alloc _) ⟨w4.heap.size, 0, none⟩ 1 1 [.int .i64 7, .int .i64 m] rfl rfl (two_new _ _ _ _) (by simp [Value.oneCell']) (by unfold maxLen; omega) (by omega) (by have := HGW.out.size; simp; omega) ?_; intro v' w5 hown' hgrow _; obtain ⟨R', cap', rfl⟩ := own_slice hown'; have HN := Lib.hid (Grow.step hl (HC.out.alloc _) (grown_trans HGW.out (World.grownBy_alloc _ _ _)) hlt (HO.out.alloc _) hown' hgrow); clear hown' hgrow))
            go_roundw
            case rel => exact ⟨R', m + 1, cap', _, by omega, by omega, by omega, rfl, HN⟩
            case measure => simp [lenOf']; omega
          · go_wp2_with fail
            go_ret
            exact ⟨_, _, _, _, by omega, by omega, by omega, rfl, HG3.out⟩
    · obtain ⟨l, hl, ho, hc, hg, hlt⟩ := hR.out
      have HC := Lib.hid hc
      clear ho hc hg
      go_wp2_with fail
      refine (spot_any _ _ _ _ _ _ _ HC.out (by omega)).mono ?_
      rintro e w4 ⟨x, y, k2, _, _, hk3, hk4, rfl, hc, hg⟩
      have HG2 := Lib.hid (hR.out.draw hc hg)
      clear hc hg HC hl
      obtain ⟨l, hl, ho, hc, hg, hlt⟩ := HG2.out
      have HC := Lib.hid hc
      have HO := Lib.hid ho
      have HGW := Lib.hid hg
      clear ho hc hg
      go_wp2_with (at_builtin; go_loud (refine wpList_append_own _ rfl _ _ 24 rfl w.heap.size 26 i0 (.agg #[.int .i64 0, .int .i64 0]) 2 16 Try.underlying24 HI.out.1 HI.out.2.1 HI.out.2.2.1 HI.out.2.2.2 rfl (by decide) _ _ _ rfl (HO.out.alloc _) ⟨w4.heap.size, 0, none⟩ 1 1 [.int .i64 x, .int .i64 y] rfl rfl (two_new _ _ _ _) (by simp [Value.oneCell']) (by unfold maxLen; omega) (by omega) (by have := HGW.out.size; simp; omega) ?_; intro v' w5 hown' hgrow _; obtain ⟨R', cap', rfl⟩ := own_slice hown'; have HN := Lib.hid (Grow.step hl (HC.out.alloc _) (grown_trans HGW.out (World.grownBy_alloc _ _ _)) hlt (HO.out.alloc _) hown' hgrow); clear hown' hgrow))
      go_roundw
      case rel => exact ⟨R', m + 1, cap', k2, r - 1, by omega, by omega, by omega, rfl, by go_num, HN⟩
      case measure => simp [intOf]; omega
end Go.Proofs.Ytjnimedbjmihaaa
