/-
  Spikes and keep lists, the law's model: contracts of spec.l12Spikes, SpikesIn, RejectDown over this translation. Conditions: stated at each theorem.
-/
import Derived.Test.YtjekmmekkfmplaaEc
namespace Go.Proofs.Ytjekmmekkfmplaa
open Go.RowKit
set_option linter.unusedVariables false

/-! ### Two rows of numbers that a call grows -/
/-- Two rows of numbers of the call's own, in blocks apart. -/
structure TwoE (w : World) (u v : Value) (n m : Nat) (xs ys : List Int) (wr : World) : Prop where
  up : Col w 3 1 u n (ivs xs) wr
  dn : Col w 3 1 v m (ivs ys) wr
  ne : u.ownBlock ≠ v.ownBlock
theorem TwoE.swap {w wr : World} {u v : Value} {n m : Nat} {xs ys : List Int} (h : TwoE w u v n m xs ys wr) : TwoE w v u m n ys xs wr := ⟨h.dn, h.up, h.ne.symm⟩
theorem TwoE.next {w wr w1 : World} {u v : Value} {n m : Nat} {xs ys : List Int} (h : TwoE w u v n m xs ys wr) (hb : Below wr.heap.size wr w1) : TwoE w u v n m xs ys w1 := ⟨h.up.next hb, h.dn.next hb, h.ne⟩
theorem two_startE (w : World) : TwoE w (.slice (some ⟨w.heap.size, 0, none⟩) 0 0) (.slice (some ⟨(w.alloc (.cells #[] 3)).heap.size, 0, none⟩) 0 0) 0 0 [] [] ((w.alloc (.cells #[] 3)).alloc (.cells #[] 3)) :=
  ⟨(col_start 3 1 (Below.refl _ _)).next ((Below.refl _ _).alloc (Nat.le_refl _) _), col_start 3 1 ((Below.refl _ _).alloc (Nat.le_refl _) _), fun e => by
    have e2 : w.heap.size = (w.alloc (.cells #[] 3)).heap.size := Option.some.inj e
    rw [World.size_alloc] at e2
    omega⟩
theorem two_startE' (w : World) : TwoE w (.slice (some ⟨w.heap.size, 0, none⟩) 0 0) (.slice (some ⟨w.heap.size + 1, 0, none⟩) 0 0) 0 0 [] [] ((w.alloc (.cells #[] 3)).alloc (.cells #[] 3)) := by
  have h := two_startE w
  rw [World.size_alloc] at h
  exact h
theorem TwoE.grow {w W w2 : World} {u u' v : Value} {n n' m : Nat} {xs xs' ys : List Int} {o : Obj} (h : TwoE w u v n m xs ys W) (ho : w2.ownsRow w.heap.size 3 1 u' n' (ivs xs')) (hg : (W.alloc o).grownBy w2 u.ownBlock)
    (hf : u'.ownBlock = u.ownBlock ∨ u'.ownBlock = some (W.alloc o).heap.size) : TwoE w u' v n' m xs' ys w2 :=
  ⟨h.up.step ho hg, ⟨(h.dn.1.alloc o).kept hg (.inr h.ne.symm), (h.up.step ho hg).2⟩, by
    rcases hf with e | e
    · rw [e]; exact h.ne
    · rw [e]
      intro e2
      have h1 := (h.dn.1.lt _ e2.symm).2
      rw [World.size_alloc] at h1
      omega⟩
/-- A row that was there and a row that a later call made. -/
theorem two_later {w W W2 : World} {g C : Nat} {v : Value} {n m : Nat} {xs ys : List Int} (h : Col w 3 1 (.slice (some ⟨g, 0, none⟩) n C) n (ivs xs) W) (k : Col W 3 1 v m (ivs ys) W2) : TwoE w (.slice (some ⟨g, 0, none⟩) n C) v n m xs ys W2 :=
  ⟨h.next k.2, ⟨own_base k.1 h.2.size, (h.next k.2).2⟩, fun e => by
    have h1 := (h.1.lt g rfl).2
    have h2 := (k.1.lt g e.symm).1
    omega⟩
theorem two_put {w W : World} {B : Nat} {u v : Value} {n m : Nat} {xs ys : List Int} (h : TwoE W u v n m xs ys w) (hw : B ≤ W.heap.size) : w.ownsRow B 3 1 u n (ivs xs) := own_base h.up.1 hw
/-! ### Spikes -/
theorem upL_no {T : List Int} {l : Int} {j : Nat} (h : upB T l (j + 1) = false) : upL T l (j + 1) = upL T l j := coL_no h
theorem upL_yes {T : List Int} {l : Int} {j : Nat} (h : upB T l (j + 1) = true) : upL T l (j + 1) = upL T l j ++ [((j + 1 : Nat) : Int)] := coL_yes h
theorem dnL_no {T : List Int} {l : Int} {j : Nat} (h : dnB T l (j + 1) = false) : dnL T l (j + 1) = dnL T l j := coL_no h
theorem dnL_yes {T : List Int} {l : Int} {j : Nat} (h : dnB T l (j + 1) = true) : dnL T l (j + 1) = dnL T l j ++ [((j + 1 : Nat) : Int)] := coL_yes h
theorem up_eq {T : List Int} {l x y z : Int} {j : Nat} (hx : T.getD j 0 = x) (hy : T.getD (j + 1) 0 = y) (hz : T.getD (j + 1 + 1) 0 = z) : upB T l (j + 1) = (decide (y < x - l) && decide (y < z - l)) := by
  unfold upB
  rw [Nat.add_sub_cancel, hx, hy, hz]
theorem dn_eq {T : List Int} {l x y z : Int} {j : Nat} (hx : T.getD j 0 = x) (hy : T.getD (j + 1) 0 = y) (hz : T.getD (j + 1 + 1) 0 = z) : dnB T l (j + 1) = (decide (y > x + l) && decide (y > z + l)) := by
  unfold dnB
  rw [Nat.add_sub_cancel, hx, hy, hz]
def SpkE (T : List Int) (l : Int) (w : World) (e : Ending) (w' : World) : Prop :=
  ∃ (g n C g' m C' : Nat), e = .returned (.tuple #[.slice (some ⟨g, 0, none⟩) n C, .slice (some ⟨g', 0, none⟩) m C']) ∧ TwoE w (.slice (some ⟨g, 0, none⟩) n C) (.slice (some ⟨g', 0, none⟩) m C') n m (upS T l) (dnS T l) w'
set_option maxRecDepth 20000 in
set_option maxHeartbeats 6400000 in
theorem spikes_spec (A : Option Addr) (C0 lo hi : Nat) (T : List Int) (l : Int) (w : World) (ht : IFun w lo hi A T.length (fun j => T.getD j 0)) (hh : hi ≤ w.heap.size) (hT : Trk T) (hl1 : 0 ≤ l) (hl2 : l ≤ 5000) :
    Calls Try.prog 59 #[.slice A T.length C0, .int .i64 l] w (SpkE T l w) := by
  obtain ⟨i0, hi, hz0, hz1, hz2⟩ := info_parts info3
  have HJ := Lib.hid (And.intro hi (And.intro hz0 (And.intro hz1 hz2)))
  clear hi hz0 hz1 hz2
  have HI := Lib.hid ht
  have HB := Lib.hid hT.one
  have h3 := hT.lo
  have h30 := hT.hi
  obtain ⟨W9, hW9⟩ : ∃ W9, W9 = (w.alloc (.cells #[] 3)).alloc (.cells #[] 3) := ⟨_, rfl⟩
  have HT0 : Hid (TwoE w (.slice (some ⟨w.heap.size, 0, none⟩) 0 0) (.slice (some ⟨w.heap.size + 1, 0, none⟩) 0 0) 0 0 (upL T l (1 - 1)) (dnL T l (1 - 1)) W9) := by rw [hW9]; exact Lib.hid (two_startE' w)
  have HE0 := Lib.hid hW9
  clear hW9 ht hT
  go_enter Try.func59, Try.ntmps59
  go_wp2_with fail
  rw [← HE0.out]
  go_loopw [6, 7, 8] (fun s t i wr => ∃ (k n m g C g' C' : Nat), 1 ≤ k ∧ k + 1 ≤ T.length ∧ n ≤ k ∧ m ≤ k ∧ i = .int .i64 k ∧ s = .slice (some ⟨g, 0, none⟩) n C ∧ t = .slice (some ⟨g', 0, none⟩) m C' ∧ Hid (TwoE w (.slice (some ⟨g, 0, none⟩) n C) (.slice (some ⟨g', 0, none⟩) m C') n m (upL T l (k - 1)) (dnL T l (k - 1)) wr)) (fun _ _ i _ => T.length - (intOf i).toNat)
  case atStart => exact ⟨1, 0, 0, _, 0, _, 0, Nat.le_refl _, by omega, by omega, by omega, rfl, rfl, rfl, HT0⟩
  case round =>
    obtain ⟨k, n, m, g, C, g', C', hk1, hk, hn, hm, rfl, rfl, rfl, hT⟩ := hrel
    by_cases hlt : k + 1 < T.length
    · rcases k with _ | j
      · omega
      rw [Nat.add_sub_cancel] at hT
      obtain ⟨b, rfl, _, _, c0, _⟩ := (HI.out.on hT.out.up.2 hh) j (by omega)
      obtain ⟨b', e', _, _, c1, _⟩ := (HI.out.on hT.out.up.2 hh) (j + 1) (by omega)
      obtain rfl : b = b' := by injection e' with h; injection h
      clear e'
      obtain ⟨b', e', _, _, c2, _⟩ := (HI.out.on hT.out.up.2 hh) (j + 1 + 1) hlt
      obtain rfl : b = b' := by injection e' with h; injection h
      clear e'
      obtain ⟨x, hx⟩ : ∃ x, T.getD j 0 = x := ⟨_, rfl⟩
      obtain ⟨y, hy⟩ : ∃ y, T.getD (j + 1) 0 = y := ⟨_, rfl⟩
      obtain ⟨z, hz⟩ : ∃ z, T.getD (j + 1 + 1) 0 = z := ⟨_, rfl⟩
      have hx9 := HB.out j (by omega)
      have hy9 := HB.out (j + 1) (by omega)
      have hz9 := HB.out (j + 1 + 1) hlt
      dsimp only at c0 c1 c2
      rw [hx] at c0 hx9
      rw [hy] at c1 hy9
      rw [hz] at c2 hz9
      have HXV := Lib.hid (And.intro hx (And.intro hy hz))
      clear hx hy hz
      obtain ⟨W0, rfl⟩ : ∃ W : World, W = wr := ⟨_, rfl⟩
      by_cases q1 : y < x - l
      · by_cases q2 : y < z - l
        · have hd1 : decide (y < x - l) = true := decide_eq_true (by omega)
          have hd2 : decide (y < z - l) = true := decide_eq_true (by omega)
          have hd3 : decide (y > x + l) = false := decide_eq_false (by omega)
          have HU2 := Lib.hid (upL_yes (T := T) (l := l) (j := j) (by rw [up_eq HXV.out.1 HXV.out.2.1 HXV.out.2.2, hd1, hd2]; rfl))
          have HD2 := Lib.hid (dnL_no (T := T) (l := l) (j := j) (by rw [dn_eq HXV.out.1 HXV.out.2.1 HXV.out.2.2, hd3]; rfl))
          go_wp2_with fail
          have lc0 := lcell (c0)
          have lc1 := lcell (c1)
          have lc2 := lcell (c2)
          refine region_later (W := W0) (by kernel_rfl) (by kernel_rfl) (Below.refl _ _) ?_
          repeat (go_big_quiet_step ((fail)))
          refine wpQuiet_nil ?_
          intro W1 hW1
          have HL : Hid (Below W0.heap.size W0 W1) := by obtain ⟨x, rfl⟩ := hW1; exact Lib.hid x.below
          clear hW1 lc0 lc1 lc2
          have HT2 := Lib.hid (hT.out.next HL.out)
          clear c0 c1 c2 HL
          go_wp2_with (at_builtin; go_loud (refine wpList_append_own_at _ rfl _ _ 24 rfl w.heap.size 3 i0 (.int .i64 0) 1 8 Try.underlying24 HJ.out.1 HJ.out.2.1 HJ.out.2.2.1 HJ.out.2.2.2 rfl (by decide) _ _ _ rfl (HT2.out.up.1.alloc _) ⟨W1.heap.size, 0, none⟩ 1 1 [.int .i64 (j + 1 : Nat)] rfl rfl (one_newJ _ _ _) (by simp [Value.oneCell']) (by unfold maxLen; omega) (by omega) (by have := HT2.out.up.2.size; simp; omega) ?_; intro v' w5 hown' hgrow _ hfr; rw [← ivs_snoc] at hown'; have HN := Lib.hid (TwoE.grow (HT2.out) hown' hgrow hfr); clear hown' hgrow hfr))
          obtain ⟨g5, C5, rfl, _, _⟩ := own_capsJ HN.out.up.1
          have HT3 := Lib.hid HN.out
          clear HN HT2
          have HX := HI.out.on HT3.out.up.2 hh
          obtain ⟨b2, e2, _, _, k0, _⟩ := HX j (by omega)
          obtain ⟨b3, e3, _, _, k1, _⟩ := HX (j + 1) (by omega)
          obtain ⟨b4, e4, _, _, k2, _⟩ := HX (j + 1 + 1) hlt
          obtain rfl : b = b2 := by injection e2 with h; injection h
          obtain rfl : b = b3 := by injection e3 with h; injection h
          obtain rfl : b = b4 := by injection e4 with h; injection h
          dsimp only at k0 k1 k2
          rw [HXV.out.1] at k0
          rw [HXV.out.2.1] at k1
          rw [HXV.out.2.2] at k2
          clear e2 e3 e4 HX
          have lc0 := lcell (k0)
          have lc1 := lcell (k1)
          have lc2 := lcell (k2)
          refine region_later (W := w5) (by kernel_rfl) (by kernel_rfl) (Below.refl _ _) ?_
          repeat (go_big_quiet_step ((fail)))
          refine wpQuiet_nil ?_
          intro W4 hW1
          have HL : Hid (Below w5.heap.size w5 W4) := by obtain ⟨x, rfl⟩ := hW1; exact Lib.hid x.below
          clear hW1 lc0 lc1 lc2
          have HT2 := Lib.hid (HT3.out.next HL.out)
          clear k0 k1 k2 HT3 HL
          go_wp2_with fail
          have HT4 : Hid (TwoE w (.slice (some ⟨g5, 0, none⟩) (n + 1) C5) (.slice (some ⟨g', 0, none⟩) m C') (n + 1) m (upL T l (j + 1)) (dnL T l (j + 1)) W4) := by unfold Hid; rw [HU2.out, HD2.out]; exact HT2.out
          go_roundw
          case rel => exact ⟨j + 1 + 1, (n + 1), m, g5, C5, g', C', by omega, by omega, by omega, by omega, by go_num, rfl, rfl, HT4⟩
          case measure => simp [intOf]; omega
        · have hd1 : decide (y < x - l) = true := decide_eq_true (by omega)
          have hd2 : decide (y < z - l) = false := decide_eq_false (by omega)
          have hd3 : decide (y > x + l) = false := decide_eq_false (by omega)
          have HU2 := Lib.hid (upL_no (T := T) (l := l) (j := j) (by rw [up_eq HXV.out.1 HXV.out.2.1 HXV.out.2.2, hd1, hd2]; rfl))
          have HD2 := Lib.hid (dnL_no (T := T) (l := l) (j := j) (by rw [dn_eq HXV.out.1 HXV.out.2.1 HXV.out.2.2, hd3]; rfl))
          go_wp2_with fail
          have lc0 := lcell (c0)
          have lc1 := lcell (c1)
          have lc2 := lcell (c2)
          refine region_later (W := W0) (by kernel_rfl) (by kernel_rfl) (Below.refl _ _) ?_
          repeat (go_big_quiet_step ((fail)))
          refine wpQuiet_nil ?_
          intro W1 hW1
          have HL : Hid (Below W0.heap.size W0 W1) := by obtain ⟨x, rfl⟩ := hW1; exact Lib.hid x.below
          clear hW1 lc0 lc1 lc2
          have HT2 := Lib.hid (hT.out.next HL.out)
          clear c0 c1 c2 HL
          have HT3 := HT2
          clear HT2
          go_wp2_with fail
          have HX := HI.out.on HT3.out.up.2 hh
          obtain ⟨b2, e2, _, _, k0, _⟩ := HX j (by omega)
          obtain ⟨b3, e3, _, _, k1, _⟩ := HX (j + 1) (by omega)
          obtain ⟨b4, e4, _, _, k2, _⟩ := HX (j + 1 + 1) hlt
          obtain rfl : b = b2 := by injection e2 with h; injection h
          obtain rfl : b = b3 := by injection e3 with h; injection h
          obtain rfl : b = b4 := by injection e4 with h; injection h
          dsimp only at k0 k1 k2
          rw [HXV.out.1] at k0
          rw [HXV.out.2.1] at k1
          rw [HXV.out.2.2] at k2
          clear e2 e3 e4 HX
          have lc0 := lcell (k0)
          have lc1 := lcell (k1)
          have lc2 := lcell (k2)
          refine region_later (W := W1) (by kernel_rfl) (by kernel_rfl) (Below.refl _ _) ?_
          repeat (go_big_quiet_step ((fail)))
          refine wpQuiet_nil ?_
          intro W4 hW1
          have HL : Hid (Below W1.heap.size W1 W4) := by obtain ⟨x, rfl⟩ := hW1; exact Lib.hid x.below
          clear hW1 lc0 lc1 lc2
          have HT2 := Lib.hid (HT3.out.next HL.out)
          clear k0 k1 k2 HT3 HL
          go_wp2_with fail
          have HT4 : Hid (TwoE w (.slice (some ⟨g, 0, none⟩) n C) (.slice (some ⟨g', 0, none⟩) m C') n m (upL T l (j + 1)) (dnL T l (j + 1)) W4) := by unfold Hid; rw [HU2.out, HD2.out]; exact HT2.out
          go_roundw
          case rel => exact ⟨j + 1 + 1, n, m, g, C, g', C', by omega, by omega, by omega, by omega, by go_num, rfl, rfl, HT4⟩
          case measure => simp [intOf]; omega
      · by_cases q3 : y > x + l
        · by_cases q4 : y > z + l
          · have hd1 : decide (y < x - l) = false := decide_eq_false (by omega)
            have hd3 : decide (y > x + l) = true := decide_eq_true (by omega)
            have hd4 : decide (y > z + l) = true := decide_eq_true (by omega)
            have HU2 := Lib.hid (upL_no (T := T) (l := l) (j := j) (by rw [up_eq HXV.out.1 HXV.out.2.1 HXV.out.2.2, hd1]; rfl))
            have HD2 := Lib.hid (dnL_yes (T := T) (l := l) (j := j) (by rw [dn_eq HXV.out.1 HXV.out.2.1 HXV.out.2.2, hd3, hd4]; rfl))
            go_wp2_with fail
            have lc0 := lcell (c0)
            have lc1 := lcell (c1)
            have lc2 := lcell (c2)
            refine region_later (W := W0) (by kernel_rfl) (by kernel_rfl) (Below.refl _ _) ?_
            repeat (go_big_quiet_step ((fail)))
            refine wpQuiet_nil ?_
            intro W1 hW1
            have HL : Hid (Below W0.heap.size W0 W1) := by obtain ⟨x, rfl⟩ := hW1; exact Lib.hid x.below
            clear hW1 lc0 lc1 lc2
            have HT2 := Lib.hid (hT.out.next HL.out)
            clear c0 c1 c2 HL
            have HT3 := HT2
            clear HT2
            go_wp2_with fail
            have HX := HI.out.on HT3.out.up.2 hh
            obtain ⟨b2, e2, _, _, k0, _⟩ := HX j (by omega)
            obtain ⟨b3, e3, _, _, k1, _⟩ := HX (j + 1) (by omega)
            obtain ⟨b4, e4, _, _, k2, _⟩ := HX (j + 1 + 1) hlt
            obtain rfl : b = b2 := by injection e2 with h; injection h
            obtain rfl : b = b3 := by injection e3 with h; injection h
            obtain rfl : b = b4 := by injection e4 with h; injection h
            dsimp only at k0 k1 k2
            rw [HXV.out.1] at k0
            rw [HXV.out.2.1] at k1
            rw [HXV.out.2.2] at k2
            clear e2 e3 e4 HX
            have lc0 := lcell (k0)
            have lc1 := lcell (k1)
            have lc2 := lcell (k2)
            refine region_later (W := W1) (by kernel_rfl) (by kernel_rfl) (Below.refl _ _) ?_
            repeat (go_big_quiet_step ((fail)))
            refine wpQuiet_nil ?_
            intro W4 hW1
            have HL : Hid (Below W1.heap.size W1 W4) := by obtain ⟨x, rfl⟩ := hW1; exact Lib.hid x.below
            clear hW1 lc0 lc1 lc2
            have HT2 := Lib.hid (HT3.out.next HL.out)
            clear k0 k1 k2 HT3 HL
            go_wp2_with (at_builtin; go_loud (refine wpList_append_own_at _ rfl _ _ 24 rfl w.heap.size 3 i0 (.int .i64 0) 1 8 Try.underlying24 HJ.out.1 HJ.out.2.1 HJ.out.2.2.1 HJ.out.2.2.2 rfl (by decide) _ _ _ rfl (HT2.out.dn.1.alloc _) ⟨W4.heap.size, 0, none⟩ 1 1 [.int .i64 (j + 1 : Nat)] rfl rfl (one_newJ _ _ _) (by simp [Value.oneCell']) (by unfold maxLen; omega) (by omega) (by have := HT2.out.up.2.size; simp; omega) ?_; intro v' w5 hown' hgrow _ hfr; rw [← ivs_snoc] at hown'; have HN := Lib.hid (TwoE.grow (HT2.out.swap) hown' hgrow hfr); clear hown' hgrow hfr))
            obtain ⟨g5, C5, rfl, _, _⟩ := own_capsJ HN.out.up.1
            have HT3 := Lib.hid HN.out.swap
            clear HN HT2
            have HT4 : Hid (TwoE w (.slice (some ⟨g, 0, none⟩) n C) (.slice (some ⟨g5, 0, none⟩) (m + 1) C5) n (m + 1) (upL T l (j + 1)) (dnL T l (j + 1)) w5) := by unfold Hid; rw [HU2.out, HD2.out]; exact HT3.out
            go_roundw
            case rel => exact ⟨j + 1 + 1, n, (m + 1), g, C, g5, C5, by omega, by omega, by omega, by omega, by go_num, rfl, rfl, HT4⟩
            case measure => simp [intOf]; omega
          · have hd1 : decide (y < x - l) = false := decide_eq_false (by omega)
            have hd3 : decide (y > x + l) = true := decide_eq_true (by omega)
            have hd4 : decide (y > z + l) = false := decide_eq_false (by omega)
            have HU2 := Lib.hid (upL_no (T := T) (l := l) (j := j) (by rw [up_eq HXV.out.1 HXV.out.2.1 HXV.out.2.2, hd1]; rfl))
            have HD2 := Lib.hid (dnL_no (T := T) (l := l) (j := j) (by rw [dn_eq HXV.out.1 HXV.out.2.1 HXV.out.2.2, hd3, hd4]; rfl))
            go_wp2_with fail
            have lc0 := lcell (c0)
            have lc1 := lcell (c1)
            have lc2 := lcell (c2)
            refine region_later (W := W0) (by kernel_rfl) (by kernel_rfl) (Below.refl _ _) ?_
            repeat (go_big_quiet_step ((fail)))
            refine wpQuiet_nil ?_
            intro W1 hW1
            have HL : Hid (Below W0.heap.size W0 W1) := by obtain ⟨x, rfl⟩ := hW1; exact Lib.hid x.below
            clear hW1 lc0 lc1 lc2
            have HT2 := Lib.hid (hT.out.next HL.out)
            clear c0 c1 c2 HL
            have HT3 := HT2
            clear HT2
            go_wp2_with fail
            have HX := HI.out.on HT3.out.up.2 hh
            obtain ⟨b2, e2, _, _, k0, _⟩ := HX j (by omega)
            obtain ⟨b3, e3, _, _, k1, _⟩ := HX (j + 1) (by omega)
            obtain ⟨b4, e4, _, _, k2, _⟩ := HX (j + 1 + 1) hlt
            obtain rfl : b = b2 := by injection e2 with h; injection h
            obtain rfl : b = b3 := by injection e3 with h; injection h
            obtain rfl : b = b4 := by injection e4 with h; injection h
            dsimp only at k0 k1 k2
            rw [HXV.out.1] at k0
            rw [HXV.out.2.1] at k1
            rw [HXV.out.2.2] at k2
            clear e2 e3 e4 HX
            have lc0 := lcell (k0)
            have lc1 := lcell (k1)
            have lc2 := lcell (k2)
            refine region_later (W := W1) (by kernel_rfl) (by kernel_rfl) (Below.refl _ _) ?_
            repeat (go_big_quiet_step ((fail)))
            refine wpQuiet_nil ?_
            intro W4 hW1
            have HL : Hid (Below W1.heap.size W1 W4) := by obtain ⟨x, rfl⟩ := hW1; exact Lib.hid x.below
            clear hW1 lc0 lc1 lc2
            have HT2 := Lib.hid (HT3.out.next HL.out)
            clear k0 k1 k2 HT3 HL
            go_wp2_with fail
            have HT4 : Hid (TwoE w (.slice (some ⟨g, 0, none⟩) n C) (.slice (some ⟨g', 0, none⟩) m C') n m (upL T l (j + 1)) (dnL T l (j + 1)) W4) := by unfold Hid; rw [HU2.out, HD2.out]; exact HT2.out
            go_roundw
            case rel => exact ⟨j + 1 + 1, n, m, g, C, g', C', by omega, by omega, by omega, by omega, by go_num, rfl, rfl, HT4⟩
            case measure => simp [intOf]; omega
        · have hd1 : decide (y < x - l) = false := decide_eq_false (by omega)
          have hd3 : decide (y > x + l) = false := decide_eq_false (by omega)
          have HU2 := Lib.hid (upL_no (T := T) (l := l) (j := j) (by rw [up_eq HXV.out.1 HXV.out.2.1 HXV.out.2.2, hd1]; rfl))
          have HD2 := Lib.hid (dnL_no (T := T) (l := l) (j := j) (by rw [dn_eq HXV.out.1 HXV.out.2.1 HXV.out.2.2, hd3]; rfl))
          go_wp2_with fail
          have lc0 := lcell (c0)
          have lc1 := lcell (c1)
          have lc2 := lcell (c2)
          refine region_later (W := W0) (by kernel_rfl) (by kernel_rfl) (Below.refl _ _) ?_
          repeat (go_big_quiet_step ((fail)))
          refine wpQuiet_nil ?_
          intro W1 hW1
          have HL : Hid (Below W0.heap.size W0 W1) := by obtain ⟨x, rfl⟩ := hW1; exact Lib.hid x.below
          clear hW1 lc0 lc1 lc2
          have HT2 := Lib.hid (hT.out.next HL.out)
          clear c0 c1 c2 HL
          have HT3 := HT2
          clear HT2
          go_wp2_with fail
          have HX := HI.out.on HT3.out.up.2 hh
          obtain ⟨b2, e2, _, _, k0, _⟩ := HX j (by omega)
          obtain ⟨b3, e3, _, _, k1, _⟩ := HX (j + 1) (by omega)
          obtain ⟨b4, e4, _, _, k2, _⟩ := HX (j + 1 + 1) hlt
          obtain rfl : b = b2 := by injection e2 with h; injection h
          obtain rfl : b = b3 := by injection e3 with h; injection h
          obtain rfl : b = b4 := by injection e4 with h; injection h
          dsimp only at k0 k1 k2
          rw [HXV.out.1] at k0
          rw [HXV.out.2.1] at k1
          rw [HXV.out.2.2] at k2
          clear e2 e3 e4 HX
          have lc0 := lcell (k0)
          have lc1 := lcell (k1)
          have lc2 := lcell (k2)
          refine region_later (W := W1) (by kernel_rfl) (by kernel_rfl) (Below.refl _ _) ?_
          repeat (go_big_quiet_step ((fail)))
          refine wpQuiet_nil ?_
          intro W4 hW1
          have HL : Hid (Below W1.heap.size W1 W4) := by obtain ⟨x, rfl⟩ := hW1; exact Lib.hid x.below
          clear hW1 lc0 lc1 lc2
          have HT2 := Lib.hid (HT3.out.next HL.out)
          clear k0 k1 k2 HT3 HL
          go_wp2_with fail
          have HT4 : Hid (TwoE w (.slice (some ⟨g, 0, none⟩) n C) (.slice (some ⟨g', 0, none⟩) m C') n m (upL T l (j + 1)) (dnL T l (j + 1)) W4) := by unfold Hid; rw [HU2.out, HD2.out]; exact HT2.out
          go_roundw
          case rel => exact ⟨j + 1 + 1, n, m, g, C, g', C', by omega, by omega, by omega, by omega, by go_num, rfl, rfl, HT4⟩
          case measure => simp [intOf]; omega
    · have HF : Hid (TwoE w (.slice (some ⟨g, 0, none⟩) n C) (.slice (some ⟨g', 0, none⟩) m C') n m (upS T l) (dnS T l) wr) := by
        have e : k - 1 = T.length - 2 := by omega
        rw [e] at hT
        exact hT
      clear hT
      go_wp2_with fail
      go_ret2
      exact ⟨g, n, C, g', m, C', rfl, HF.out⟩
/-! ### SpikesIn -/
def upR (T : List Int) (l : Int) : List Int := if akB T l then upS T l else []
def dnR (T : List Int) (l : Int) : List Int := if akB T l then dnS T l else []
def SkPost (T : List Int) (l : Int) (w : World) (e : Ending) (w' : World) : Prop :=
  ∃ (g n C g' m C' : Nat), e = .returned (.tuple #[.slice (some ⟨g, 0, none⟩) n C, .slice (some ⟨g', 0, none⟩) m C', .bool (akB T l)]) ∧ TwoE w (.slice (some ⟨g, 0, none⟩) n C) (.slice (some ⟨g', 0, none⟩) m C') n m (upR T l) (dnR T l) w'
theorem sk_no {T : List Int} {l : Int} {w : World} (h : akB T l = false) : SkPost T l w (.returned (.tuple #[.slice (some ⟨w.heap.size, 0, none⟩) 0 0, .slice (some ⟨w.heap.size + 1, 0, none⟩) 0 0, .bool false])) ((w.alloc (.cells #[] 3)).alloc (.cells #[] 3)) := by
  refine ⟨_, _, _, _, _, _, by rw [h], ?_⟩
  unfold upR dnR
  rw [h]
  exact two_startE' w
theorem sk_yes {T : List Int} {l : Int} {w w' : World} {g n C g' m C' : Nat} (h : akB T l = true) (hc : TwoE w (.slice (some ⟨g, 0, none⟩) n C) (.slice (some ⟨g', 0, none⟩) m C') n m (upS T l) (dnS T l) w') : SkPost T l w (.returned (.tuple #[.slice (some ⟨g, 0, none⟩) n C, .slice (some ⟨g', 0, none⟩) m C', .bool true])) w' := by
  refine ⟨_, _, _, _, _, _, by rw [h], ?_⟩
  unfold upR dnR
  rw [h]
  exact hc
set_option maxRecDepth 20000 in
set_option maxHeartbeats 3200000 in
theorem spikesIn_spec (A : Option Addr) (C0 lo hi : Nat) (T : List Int) (l : Int) (w : World) (ht : IFun w lo hi A T.length (fun j => T.getD j 0)) (hh : hi ≤ w.heap.size) (hm : T.length ≤ 1048576) :
    Calls Try.prog 18 #[.slice A T.length C0, .int .i64 l] w (SkPost T l w) := by
  have HI := Lib.hid ht
  clear ht
  rcases h1 : akB T l with _ | _
  · have H1 := Lib.hid h1
    have HP := Lib.hid (sk_no (w := w) h1)
    clear h1
    go_enter Try.func18, Try.ntmps18
    go_wp2_with fail
    refine (askE_spec _ _ _ _ _ _ _ H1.out _ HI.out hm).mono ?_
    rintro e w' ⟨rfl, rfl⟩
    go_wp2_with fail
    go_ret3
    exact HP.out
  have H1 := Lib.hid h1
  have HT := Lib.hid (ak_is h1)
  clear h1
  go_enter Try.func18, Try.ntmps18
  go_wp2_with fail
  refine (askE_spec _ _ _ _ _ _ _ H1.out _ HI.out hm).mono ?_
  rintro e w' ⟨rfl, rfl⟩
  go_wp2_with fail
  refine (spikes_spec _ _ _ _ _ l _ HI.out hh HT.out.1 (by have := HT.out.2.1; omega) HT.out.2.2).mono ?_
  rintro e w' ⟨g, n, C, g', m, C', rfl, htw⟩
  have HP := Lib.hid (sk_yes H1.out htw)
  clear htw
  go_wp2_with fail
  go_ret3
  exact HP.out
/-! ### RejectDown -/
def rjR (T : List Int) (l : Int) : List Int := if akB T l then kpK (dnS T l) T.length else []
theorem rj_no {T : List Int} {l : Int} (h : akB T l = false) : rjR T l = [] ∧ akB T l = false := ⟨by unfold rjR; rw [h]; rfl, h⟩
theorem rj_yes {T : List Int} {l : Int} (h : akB T l = true) : rjR T l = kpK (dnS T l) T.length ∧ akB T l = true := ⟨by unfold rjR; rw [h, if_pos rfl], h⟩
theorem kpK_in {D : List Int} {k : Nat} (h : decide ((k : Int) ∈ D) = true) : kpK D (k + 1) = kpK D k ++ [0] := by rw [kpK, if_pos h]
theorem kpK_out {D : List Int} {k : Nat} (h : decide ((k : Int) ∈ D) = false) : kpK D (k + 1) = kpK D k ++ [1] := by rw [kpK, h]; rfl
set_option maxRecDepth 20000 in
set_option maxHeartbeats 6400000 in
theorem reject_spec (A : Option Addr) (C0 lo hi : Nat) (T : List Int) (l : Int) (w : World) (ht : IFun w lo hi A T.length (fun j => T.getD j 0)) (hh : hi ≤ w.heap.size) (hm : T.length ≤ 1048576) :
    Calls Try.prog 23 #[.slice A T.length C0, .int .i64 l] w (IntsPost (rjR T l) (fun j => (rjR T l).getD j 0) (akB T l) w) := by
  obtain ⟨i0, hi, hz0, hz1, hz2⟩ := info_parts info3
  have HJ := Lib.hid (And.intro hi (And.intro hz0 (And.intro hz1 hz2)))
  clear hi hz0 hz1 hz2
  have HI := Lib.hid ht
  clear ht
  obtain ⟨W0, hW0⟩ : ∃ W0, W0 = w.alloc (.cells #[] 3) := ⟨_, rfl⟩
  have HC0 : Hid (Col w 3 1 (.slice (some ⟨w.heap.size, 0, none⟩) 0 0) 0 (ivs []) W0) := by rw [hW0]; exact Lib.hid (col_start 3 1 (Below.refl _ _))
  have HE0 := Lib.hid hW0
  clear hW0
  rcases h1 : akB T l with _ | _
  · have H1 := Lib.hid h1
    have HP := Lib.hid (rj_no h1)
    clear h1
    go_enter Try.func23, Try.ntmps23
    go_wp2_with fail
    rw [← HE0.out]
    refine (askE_spec _ _ _ _ _ _ _ H1.out _ (HI.out.on HC0.out.2 hh) hm).mono ?_
    rintro e w' ⟨rfl, rfl⟩
    go_wp2_with fail
    go_ret2
    exact ie_no ⟨HP.out.1, rfl⟩ HC0.out
  have H1 := Lib.hid h1
  have HP := Lib.hid (rj_yes h1)
  have HT := Lib.hid (ak_is h1)
  have h30 := (ak_is h1).1.hi
  clear h1
  go_enter Try.func23, Try.ntmps23
  go_wp2_with fail
  rw [← HE0.out]
  refine (askE_spec _ _ _ _ _ _ _ H1.out _ (HI.out.on HC0.out.2 hh) hm).mono ?_
  rintro e w' ⟨rfl, rfl⟩
  go_wp2_with fail
  refine (spikes_spec _ _ _ _ _ l _ (HI.out.on HC0.out.2 hh) (Nat.le_trans hh HC0.out.2.size) HT.out.1 (by have := HT.out.2.1; omega) HT.out.2.2).mono ?_
  rintro e w2 ⟨g1, n1, C1, g2, m2, C2, rfl, htw⟩
  have hm2 : m2 ≤ 30 := by
    have h1 := col_lenJ htw.dn
    have h2 : (dnS T l).length ≤ T.length - 2 := coL_len _ _ _
    omega
  have HW0 : Hid (TwoE w (.slice (some ⟨w.heap.size, 0, none⟩) 0 0) (.slice (some ⟨g2, 0, none⟩) m2 C2) 0 m2 (kpK (dnS T l) 0) (dnS T l) w2) := Lib.hid (two_later HC0.out htw.dn)
  have HML := Lib.hid (col_lenJ htw.dn).symm
  clear htw
  go_wp2_with fail
  go_loopw [6, 9] (fun s i wr => ∃ (k g C : Nat), k ≤ T.length ∧ i = .int .i64 k ∧ s = .slice (some ⟨g, 0, none⟩) k C ∧ Hid (TwoE w (.slice (some ⟨g, 0, none⟩) k C) (.slice (some ⟨g2, 0, none⟩) m2 C2) k m2 (kpK (dnS T l) k) (dnS T l) wr)) (fun _ i _ => T.length - (intOf i).toNat)
  case atStart => exact ⟨0, _, 0, Nat.zero_le _, rfl, rfl, HW0⟩
  case round =>
    obtain ⟨k, g, C, hk, rfl, rfl, hT⟩ := hrel
    by_cases hlt : k < T.length
    · rcases h5 : decide ((k : Int) ∈ dnS T l) with _ | _
      · have H5 := Lib.hid h5
        have HK := Lib.hid (kpK_out h5)
        clear h5
        go_wp2_with fail
        refine (hasJ_spec _ _ _ _ (dnS T l) k _ H5.out _ hT.out.dn.1 HML.out hm2).mono ?_
        rintro e w4 ⟨rfl, hb⟩
        have HT2 := Lib.hid (hT.out.next hb)
        clear hb
        go_wp2_with (at_builtin; go_loud (refine wpList_append_own_at _ rfl _ _ 24 rfl w.heap.size 3 i0 (.int .i64 0) 1 8 Try.underlying24 HJ.out.1 HJ.out.2.1 HJ.out.2.2.1 HJ.out.2.2.2 rfl (by decide) _ _ _ rfl (HT2.out.up.1.alloc _) ⟨w4.heap.size, 0, none⟩ 1 1 [.int .i64 1] rfl rfl (one_newJ _ _ _) (by simp [Value.oneCell']) (by unfold maxLen; omega) (by omega) (by have := HT2.out.up.2.size; simp; omega) ?_; intro v' w5 hown' hgrow _ hfr; rw [← ivs_snoc] at hown'; have HN := Lib.hid (TwoE.grow HT2.out hown' hgrow hfr); clear hown' hgrow hfr))
        obtain ⟨g5, C5, rfl, _, _⟩ := own_capsJ HN.out.up.1
        have HT4 : Hid (TwoE w (.slice (some ⟨g5, 0, none⟩) (k + 1) C5) (.slice (some ⟨g2, 0, none⟩) m2 C2) (k + 1) m2 (kpK (dnS T l) (k + 1)) (dnS T l) w5) := by unfold Hid; rw [HK.out]; exact HN.out
        clear HN HT2
        go_roundw
        case rel => exact ⟨k + 1, g5, C5, by omega, by go_num, rfl, HT4⟩
        case measure => simp [intOf]; omega
      · have H5 := Lib.hid h5
        have HK := Lib.hid (kpK_in h5)
        clear h5
        go_wp2_with fail
        refine (hasJ_spec _ _ _ _ (dnS T l) k _ H5.out _ hT.out.dn.1 HML.out hm2).mono ?_
        rintro e w4 ⟨rfl, hb⟩
        have HT2 := Lib.hid (hT.out.next hb)
        clear hb
        go_wp2_with (at_builtin; go_loud (refine wpList_append_own_at _ rfl _ _ 24 rfl w.heap.size 3 i0 (.int .i64 0) 1 8 Try.underlying24 HJ.out.1 HJ.out.2.1 HJ.out.2.2.1 HJ.out.2.2.2 rfl (by decide) _ _ _ rfl (HT2.out.up.1.alloc _) ⟨w4.heap.size, 0, none⟩ 1 1 [.int .i64 0] rfl rfl (one_newJ _ _ _) (by simp [Value.oneCell']) (by unfold maxLen; omega) (by omega) (by have := HT2.out.up.2.size; simp; omega) ?_; intro v' w5 hown' hgrow _ hfr; rw [← ivs_snoc] at hown'; have HN := Lib.hid (TwoE.grow HT2.out hown' hgrow hfr); clear hown' hgrow hfr))
        obtain ⟨g5, C5, rfl, _, _⟩ := own_capsJ HN.out.up.1
        have HT4 : Hid (TwoE w (.slice (some ⟨g5, 0, none⟩) (k + 1) C5) (.slice (some ⟨g2, 0, none⟩) m2 C2) (k + 1) m2 (kpK (dnS T l) (k + 1)) (dnS T l) w5) := by unfold Hid; rw [HK.out]; exact HN.out
        clear HN HT2
        go_roundw
        case rel => exact ⟨k + 1, g5, C5, by omega, by go_num, rfl, HT4⟩
        case measure => simp [intOf]; omega
    · obtain rfl : k = T.length := by omega
      go_wp2_with fail
      go_ret2
      exact ie_yes (by first | exact HP.out | exact ⟨HP.out.1, rfl⟩) hT.out.up
end Go.Proofs.Ytjekmmekkfmplaa
