/-
  Curves that are drawn: contract of spec.l1Cur.tides over this translation. Conditions: stated at each theorem.
-/
import Derived.Test.YtdmnkmdlochogaaRc
import Derived.Test.YtdmnkmdlochogaaTr
namespace Go.Proofs.Ytdmnkmdlochogaa
open Go.RowKit Go.Sort

/-- Where the drawing of a curve stands: m tides with times up to b, the reader at k. -/
def TGrow (B : Nat) (A : Option Addr) (n c g : Nat) (w : World) (R : Option Addr) (m cap k : Nat) (b : Int) (W : World) : Prop :=
  ∃ l, l.length = m ∧ W.ownsRow w.heap.size 50 2 (.slice R m cap) m (cells2 l) ∧ Cur B A n c g k W ∧ w.grownBy W (some g) ∧ (g < w.heap.size ∧ R.isSome = true) ∧ ∀ p ∈ l, 0 ≤ p.1 ∧ p.1 ≤ b
theorem tgrow_start {B : Nat} {A : Option Addr} {n c g k : Nat} {w W : World} (b : Int) (h : Cur B A n c g k W) (hg : w.grownBy W (some g)) (hlt : g < w.heap.size) : TGrow B A n c g w (some ⟨W.heap.size, 0, none⟩) 0 0 k b (W.alloc (.cells #[] 50)) := by
  refine ⟨[], rfl, ?_, h.alloc _, grown_trans hg (World.grownBy_alloc _ _ _), ⟨hlt, rfl⟩, fun p hp => by simp at hp⟩
  exact World.ownsRow_made (base := w.heap.size) (e := 50) (size := 2) W #[] 0 hg.size (by unfold maxLen; omega) (by simp)
-- beside 50
theorem TGrow.draw {B : Nat} {A : Option Addr} {n c g k k' m cap : Nat} {w W W' : World} {R : Option Addr} {b : Int} (h : TGrow B A n c g w R m cap k b W) (hc : Cur B A n c g k' W') (hg : W.grownBy W' (some g)) : TGrow B A n c g w R m cap k' b W' := by
  obtain ⟨l, hl, ho, _, hg0, hlt, hb⟩ := h
  exact ⟨l, hl, own_any ho hg (fun i e => by have := Option.some.inj e; have := hlt.1; omega), hc, grown_trans hg0 hg, hlt, hb⟩
-- beside 50
theorem TGrow.addr {B : Nat} {A : Option Addr} {n c g k m cap : Nat} {w W : World} {R : Option Addr} {b : Int} (h : TGrow B A n c g w R m cap k b W) : ∃ gb, R = some ⟨gb, 0, none⟩ ∧ w.heap.size ≤ gb ∧ gb < W.heap.size := by
  obtain ⟨l, hl, ho, _, _, hlt, _⟩ := h
  have hL := ho.lt
  rcases ho.2 with ⟨h2, _⟩ | ⟨g3, cap3, cur3, hv3, _⟩
  · injection h2 with e3
    rw [e3] at hlt; cases hlt.2
  · injection hv3 with e3
    subst e3
    have := hL g3 rfl
    exact ⟨g3, rfl, this.1, this.2⟩
-- beside 50
theorem TGrow.cur {B : Nat} {A : Option Addr} {n c g k m cap : Nat} {w W : World} {R : Option Addr} {b : Int} (h : TGrow B A n c g w R m cap k b W) : Cur B A n c g k W := by obtain ⟨l, hl, ho, hc, r⟩ := h; exact hc
-- beside 50
theorem TGrow.wide {B : Nat} {A : Option Addr} {n c g k m cap : Nat} {w W : World} {R : Option Addr} {b b' : Int} (h : TGrow B A n c g w R m cap k b W) (hb : b ≤ b') : TGrow B A n c g w R m cap k b' W := by
  obtain ⟨l, hl, ho, hc, hg, hlt, h1⟩ := h
  exact ⟨l, hl, ho, hc, hg, hlt, fun p hp => ⟨(h1 p hp).1, Int.le_trans (h1 p hp).2 hb⟩⟩
theorem TGrow.step {B : Nat} {A : Option Addr} {n c g k m cap : Nat} {w W W' : World} {R R' : Option Addr} {cap' : Nat} {x y b : Int} {l : List (Int × Int)} (hl : l.length = m) (hc : Cur B A n c g k W) (hg0 : w.grownBy W (some g)) (hlt : g < w.heap.size ∧ R.isSome = true) (hb0 : ∀ p ∈ l, 0 ≤ p.1 ∧ p.1 ≤ b) (hx : 0 ≤ x ∧ x ≤ b)
    (h0 : W.ownsRow w.heap.size 50 2 (.slice R m cap) m (cells2 l))
    (ho : W'.ownsRow w.heap.size 50 2 (.slice R' (m + 1) cap') (m + 1) (cells2 l ++ [.int .i64 x, .int .i64 y])) (hg : W.grownBy W' (Value.slice R m cap).ownBlock) : TGrow B A n c g w R' (m + 1) cap' k b W' := by
  have hb : ∀ j, (Value.slice R m cap).ownBlock = some j → w.heap.size ≤ j := fun j hj => (h0.lt j hj).1
  have hB : B ≤ w.heap.size := by have := hc.old; omega
  refine ⟨l ++ [(x, y)], by simp [hl], by rw [cells2_snoc]; exact ho, hc.kept hg (fun e => by have := hb g e.symm; omega) (fun i e => by have := hb i e; omega), ?_, ⟨hlt.1, ?_⟩, fun p hp => ?_⟩
  · exact ⟨hg.os.trans hg0.os, hg.tape.trans hg0.tape, hg.output.trans hg0.output, Nat.le_trans hg0.size hg.size, fun i hi hne => (hg.block i (Nat.lt_of_lt_of_le hi hg0.size) (fun e => by have := hb i e.symm; omega)).trans (hg0.block i hi hne)⟩
  · rcases ho.2 with ⟨_, h3⟩ | ⟨g3, cap3, cur3, hv3, _⟩
    · omega
    · injection hv3 with e3
      rw [e3]; rfl
  · rcases List.mem_append.1 hp with h | h
    · exact hb0 p h
    · simp only [List.mem_singleton] at h
      subst h
      exact hx
-- beside 50
/-- The last tide that is drawn. -/
theorem TGrow.last {B : Nat} {A : Option Addr} {n c g k m cap : Nat} {w W : World} {R : Option Addr} {b : Int} (h : TGrow B A n c g w R (m + 1) cap k b W) : ∃ (gb : Nat) (x : Int), R = some ⟨gb, 0, none⟩ ∧ W.cell? ⟨gb, m * 2, none⟩ = some (.int .i64 x) ∧ 0 ≤ x ∧ x ≤ b := by
  obtain ⟨l, hl, ho, _, _, _, hb⟩ := h
  obtain ⟨gb, x, y, hA, _, _, hlk, c0, _⟩ := (own2_of_row ho hl).2 m (by omega)
  have := hb (x, y) (List.mem_of_getElem? hlk)
  exact ⟨gb, x, hA, c0, this⟩
def Lim (lo hi x : Int) : Prop := lo ≤ x ∧ x ≤ hi
-- beside 50
/-- What tides hands back. -/
def TidesPost (B : Nat) (A : Option Addr) (n c g k : Nat) (w : World) (e : Ending) (w' : World) : Prop :=
  ∃ (R : Option Addr) (m cap k' : Nat), m ≤ 13 ∧ k ≤ k' ∧ k' ≤ k + 100 ∧ e = .returned (.slice R m cap) ∧ TGrow B A n c g w R m cap k' 20000 w'
/-- The length of a slice value. -/
def lenOf' : Value → Nat
  | .slice _ m _ => m
  | _ => 0
set_option maxRecDepth 20000 in
set_option maxHeartbeats 6400000 in
theorem tides_any (B : Nat) (A : Option Addr) (n c g k : Nat) (w : World) (h : Cur B A n c g k w) (hk : k < 800000) :
    Calls Try.prog 100 #[.pointer (some ⟨g, 0, none⟩)] w (TidesPost B A n c g k w) := by
  obtain ⟨i0, hi, hz0, hz1, hz2⟩ := info_parts infoTide2
  have HI := Lib.hid (And.intro hi (And.intro hz0 (And.intro hz1 hz2)))
  clear hi hz0 hz1 hz2
  have hgB := h.old
  have HG0 := Lib.hid (tgrow_start 20000 h (show w.grownBy w (some g) from ⟨rfl, rfl, rfl, Nat.le_refl _, fun _ _ _ => rfl⟩) h.lt)
  have HC0 := Lib.hid (h.alloc (.cells #[] 50))
  have HGs : Hid (TGrow B A n c g w (some ⟨w.heap.size, 0, none⟩) 0 0 k 11400 (w.alloc (.cells #[] 50))) := Lib.hid (tgrow_start 11400 h (show w.grownBy w (some g) from ⟨rfl, rfl, rfl, Nat.le_refl _, fun _ _ _ => rfl⟩) h.lt)
  clear h HG0
  go_enter Try.func100, Try.ntmps100
  go_wp2_with fail
  refine (among_at (Lim (0) 9900) _ _ _ _ _ _ _ 4 [0, 0, 100, 9900] _ HC0.out (by simp) (by omega) (by decide) (by decide) (by intro x hx; simp only [List.mem_cons, List.not_mem_nil, or_false] at hx; unfold Lim; omega)).mono ?_
  rintro e w1 ⟨tm0, htm0, rfl, hc, hg⟩
  have HGw1 := Lib.hid (HGs.out.draw hc hg)
  have HCw1 := Lib.hid hc
  clear hc hg
  obtain ⟨htm01, htm02⟩ := htm0
  go_wp2_with fail
  refine (pick_any _ _ _ _ _ _ 7 _ HCw1.out (by omega) (by decide) (by decide)).mono ?_
  rintro e w2 ⟨v, hv, rfl, hc, hg⟩
  have HG2 := Lib.hid (HGw1.out.draw hc hg)
  clear hc hg HCw1 HGw1 HC0 HGs
  go_wp2_with fail
  go_loopw [3, 4, 5] (fun s tv i wr => ∃ (R : Option Addr) (m cap k' r : Nat) (tm : Int), m + r ≤ 7 ∧ 1 ≤ m + r ∧ k ≤ k' ∧ k' ≤ k + 2 + 2 * m ∧ 0 ≤ tm ∧ tm ≤ 9900 + 200 * m ∧ s = .slice R m cap ∧ tv = .int .i64 tm ∧ i = .int .i64 r ∧ Hid (TGrow B A n c g w R m cap k' 11400 wr)) (fun _ _ i _ => (intOf i).toNat)
  case atStart => exact ⟨_, 0, _, k + 1 + 1, v + 1, tm0, by omega, by omega, by omega, by omega, htm01, by omega, rfl, rfl, by go_num, HG2⟩
  case round =>
    obtain ⟨R, m, cap, k', r, tm, hmr, hmr1, hk1, hk2, ht1, ht2, rfl, rfl, rfl, hR⟩ := hrel
    rcases Nat.eq_zero_or_pos r with h0 | h0
    · subst h0
      have HC := Lib.hid hR.out.cur
      go_wp2_with fail
      refine (pick_any _ _ _ _ _ _ 32 _ HC.out (by omega) (by decide) (by decide)).mono ?_
      rintro e w3 ⟨q, hq, rfl, hc, hg⟩
      have HG3 := Lib.hid (hR.out.draw hc hg)
      clear hc hg HC hR
      by_cases hq0 : q = 0
      · subst hq0
        have HC3 := Lib.hid HG3.out.cur
        go_wp2_with fail
        refine (among_at (Lim (0) 10001) _ _ _ _ _ _ _ 3 [0, 10000, 10001] _ HC3.out rfl (by omega) (by decide) (by decide) (by intro x hx; simp only [List.mem_cons, List.not_mem_nil, or_false] at hx; unfold Lim; omega)).mono ?_
        rintro e w4 ⟨x1, hx1, rfl, hc, hg⟩
        have HGw4 := Lib.hid (HG3.out.draw hc hg)
        have HCw4 := Lib.hid hc
        clear hc hg
        obtain ⟨hx11, hx12⟩ := hx1
        go_wp2_with fail
        refine (among_at (Lim (-1001) 2001) _ _ _ _ _ _ _ 3 [2000, 2001, -1001] _ HCw4.out rfl (by omega) (by decide) (by decide) (by intro x hx; simp only [List.mem_cons, List.not_mem_nil, or_false] at hx; unfold Lim; omega)).mono ?_
        rintro e w6 ⟨y1, hy1, rfl, hc, hg⟩
        have HGw6 := Lib.hid (HGw4.out.draw hc hg)
        have HCw6 := Lib.hid hc
        clear hc hg
        obtain ⟨hy11, hy12⟩ := hy1
        have HG6 := Lib.hid (HGw6.out.wide (b' := 20000) (by omega))
        clear HCw4 HGw4 HCw6 HGw6 HC3 HG3
        obtain ⟨l, hl, ho, hc, hg, hlt, hbb⟩ := HG6.out
        have HC := Lib.hid hc
        have HO := Lib.hid ho
        have HGW := Lib.hid hg
        have HLB := Lib.hid hbb
        clear ho hc hg hbb
        go_wp2_with (at_builtin; go_loud (refine wpList_append_own _ rfl _ _ 45 rfl w.heap.size 50 i0 (.agg #[.int .i64 0, .int .i64 0]) 2 16 Try.underlying45 HI.out.1 HI.out.2.1 HI.out.2.2.1 HI.out.2.2.2 rfl (by decide) _ _ _ rfl (HO.out.alloc _) ⟨w6.heap.size, 0, none⟩ 1 1 [.int .i64 x1, .int .i64 y1] rfl rfl (two_new _ _ _ _) (by simp [Value.oneCell']) (by unfold maxLen; omega) (by omega) (by have := HGW.out.size; simp; omega) ?_; intro v' w5 hown' hgrow _; obtain ⟨R', cap', rfl⟩ := own_slice hown'; have HN := Lib.hid (TGrow.step (b := 20000) hl (HC.out.alloc _) (grown_trans HGW.out (World.grownBy_alloc _ _ _)) hlt HLB.out (by omega) (HO.out.alloc _) hown' hgrow); clear hown' hgrow))
        go_wp2_with fail
        go_ret
        exact ⟨_, _, _, _, by omega, by omega, by omega, rfl, HN.out⟩
      have hq0' : ((q : Int) == 0) = false := beq_eq_false_iff_ne.2 (by omega)
      by_cases hq1 : q = 1
      · subst hq1
        obtain ⟨l, hl, ho, hc, hg, hlt, hbb⟩ := HG3.out
        have HN := Lib.hid (tgrow_start 20000 hc hg hlt.1)
        clear ho hc hg hbb
        go_wp2_with fail
        go_ret
        exact ⟨_, _, _, _, by omega, by omega, by omega, rfl, HN.out⟩
      have hq1' : ((q : Int) == 1) = false := beq_eq_false_iff_ne.2 (by omega)
      by_cases hq2 : q = 2
      · subst hq2
        have HG4 := Lib.hid (HG3.out.wide (b' := 11400 + 5 * (m : Int)) (by omega))
        go_wp2_with fail
        go_loopw [3] (fun s wr => ∃ (R : Option Addr) (m cap k' : Nat), m ≤ 13 ∧ 1 ≤ m ∧ k ≤ k' ∧ k' ≤ k + 40 + m ∧ s = .slice R m cap ∧ Hid (TGrow B A n c g w R m cap k' (11400 + 5 * (m : Int)) wr)) (fun s _ => 13 - lenOf' s)
        case atStart => exact ⟨_, m, _, _, by omega, by omega, by omega, by omega, rfl, HG4⟩
        case round =>
          obtain ⟨R, m, cap, k3, hm13, hm1, hk3, hk4, rfl, hR⟩ := hrel
          have HC := Lib.hid hR.out.cur
          go_wp2_with fail
          refine (pick_any _ _ _ _ _ _ 2 _ HC.out (by omega) (by decide) (by decide)).mono ?_
          rintro e w4 ⟨u, hu, rfl, hc, hg⟩
          have HG5 := Lib.hid (hR.out.draw hc hg)
          clear hc hg HC hR
          by_cases hlt2 : (m : Int) < 12 + u
          · obtain ⟨j, rfl⟩ : ∃ j, m = j + 1 := ⟨m - 1, by omega⟩
            obtain ⟨gb, x, rfl, c0, hx0, hx1⟩ := HG5.out.last
            have HG6 := Lib.hid (HG5.out.wide (b' := 11400 + 5 * ((j + 1 + 1 : Nat) : Int)) (by omega))
            obtain ⟨l, hl, ho, hc, hg, hlt, hbb⟩ := HG6.out
            have HC := Lib.hid hc
            have HO := Lib.hid ho
            have HGW := Lib.hid hg
            have HLB := Lib.hid hbb
            clear ho hc hg hbb
            go_wp2_with (at_builtin; go_loud (refine wpList_append_own _ rfl _ _ 45 rfl w.heap.size 50 i0 (.agg #[.int .i64 0, .int .i64 0]) 2 16 Try.underlying45 HI.out.1 HI.out.2.1 HI.out.2.2.1 HI.out.2.2.2 rfl (by decide) _ _ _ rfl (HO.out.alloc _) ⟨w4.heap.size, 0, none⟩ 1 1 [.int .i64 (x + 5), .int .i64 10] rfl rfl (two_new _ _ _ _) (by simp [Value.oneCell']) (by unfold maxLen; omega) (by omega) (by have := HGW.out.size; simp; omega) ?_; intro v' w5 hown' hgrow _; obtain ⟨R', cap', rfl⟩ := own_slice hown'; have HN := Lib.hid (TGrow.step (b := 11400 + 5 * ((j + 1 + 1 : Nat) : Int)) hl (HC.out.alloc _) (grown_trans HGW.out (World.grownBy_alloc _ _ _)) hlt HLB.out (by omega) (HO.out.alloc _) hown' hgrow); clear hown' hgrow))
            go_roundw
            case rel => exact ⟨R', j + 1 + 1, cap', _, by omega, by omega, by omega, by omega, rfl, HN⟩
            case measure => simp [lenOf']; omega
          · have HG6 := Lib.hid (HG5.out.wide (b' := 20000) (by omega))
            go_wp2_with fail
            go_ret
            exact ⟨_, _, _, _, by omega, by omega, by omega, rfl, HG6.out⟩
      have hq2' : ((q : Int) == 2) = false := beq_eq_false_iff_ne.2 (by omega)
      have HG6 := Lib.hid (HG3.out.wide (b' := 20000) (by omega))
      go_wp2_with fail
      go_ret
      exact ⟨_, _, _, _, by omega, by omega, by omega, rfl, HG6.out⟩
    · have HC := Lib.hid hR.out.cur
      go_wp2_with fail
      refine (among_at (Lim (-30) 310) _ _ _ _ _ _ _ 7 [0, 20, 75, 150, 200, -30, 310] _ HC.out rfl (by omega) (by decide) (by decide) (by intro x hx; simp only [List.mem_cons, List.not_mem_nil, or_false] at hx; unfold Lim; omega)).mono ?_
      rintro e w4 ⟨y1, hy1, rfl, hc, hg⟩
      have HGw4 := Lib.hid (hR.out.draw hc hg)
      have HCw4 := Lib.hid hc
      clear hc hg
      obtain ⟨hy11, hy12⟩ := hy1
      clear HC HCw4
      obtain ⟨l, hl, ho, hc, hg, hlt, hbb⟩ := HGw4.out
      have HC := Lib.hid hc
      have HO := Lib.hid ho
      have HGW := Lib.hid hg
      have HLB := Lib.hid hbb
      clear ho hc hg hbb
      go_wp2_with (at_builtin; go_loud (refine wpList_append_own _ rfl _ _ 45 rfl w.heap.size 50 i0 (.agg #[.int .i64 0, .int .i64 0]) 2 16 Try.underlying45 HI.out.1 HI.out.2.1 HI.out.2.2.1 HI.out.2.2.2 rfl (by decide) _ _ _ rfl (HO.out.alloc _) ⟨w4.heap.size, 0, none⟩ 1 1 [.int .i64 tm, .int .i64 y1] rfl rfl (two_new _ _ _ _) (by simp [Value.oneCell']) (by unfold maxLen; omega) (by omega) (by have := HGW.out.size; simp; omega) ?_; intro v' w5 hown' hgrow _; obtain ⟨R', cap', rfl⟩ := own_slice hown'; have HN := Lib.hid (TGrow.step (b := 11400) hl (HC.out.alloc _) (grown_trans HGW.out (World.grownBy_alloc _ _ _)) hlt HLB.out (by omega) (HO.out.alloc _) hown' hgrow); clear hown' hgrow))
      have HC5 := Lib.hid HN.out.cur
      go_wp2_with fail
      refine (among_at (Lim (1) 200) _ _ _ _ _ _ _ 7 [1, 10, 30, 30, 60, 61, 200] _ HC5.out rfl (by omega) (by decide) (by decide) (by intro x hx; simp only [List.mem_cons, List.not_mem_nil, or_false] at hx; unfold Lim; omega)).mono ?_
      rintro e w6 ⟨d1, hd1, rfl, hc, hg⟩
      have HGw6 := Lib.hid (HN.out.draw hc hg)
      have HCw6 := Lib.hid hc
      clear hc hg
      obtain ⟨hd11, hd12⟩ := hd1
      go_wp2_with fail
      go_roundw
      case rel => exact ⟨R', m + 1, cap', _, r - 1, tm + d1, by omega, by omega, by omega, by omega, by omega, by omega, rfl, rfl, by go_num, HGw6⟩
      case measure => simp [intOf]; omega
end Go.Proofs.Ytdmnkmdlochogaa
