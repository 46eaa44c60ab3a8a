/-
  The shallowest craft: contracts of slices.MinFunc at craft, impl.ShallowestCraft, spec.ShallowestCraft over this translation. Conditions: stated at each theorem.
-/
import Derived.Test.YtfffahkommbheaaVl
import Derived.Test.YtfffahkommbheaaVx
import Derived.Test.YtfffahkommbheaaCm
import Derived.Deep.DeepCutAuto
namespace Go.Proofs.Ytfffahkommbheaa
open Go.RowKit

theorem Has.lay {w : World} {g : Nat} {cs : List Value} (h : Has w g cs) (hl : cs.length = 7) (v : CC) : Has (setL w g 0 [.int .i64 v.id, .string v.nm, .int .i64 v.dr, .int .i64 v.ah, .int .i64 v.be, .int .i64 v.sp, .int .i64 v.fu]) g [.int .i64 v.id, .string v.nm, .int .i64 v.dr, .int .i64 v.ah, .int .i64 v.be, .int .i64 v.sp, .int .i64 v.fu] := by
  match cs, hl with
  | [_, _, _, _, _, _, _], _ => exact ((((((h.set 0 _).set 1 _).set 2 _).set 3 _).set 4 _).set 5 _).set 6 _
theorem Has.past {w : World} {g b o : Nat} {cs : List Value} (h : Has w g cs) (hg : g ≠ b) (vs : List Value) : Has (setL w b o vs) g cs :=
  ⟨by rw [setL_size]; exact h.1, fun j u hu => (setL_other vs w b o g j (.inl hg)).trans (h.2.1 j u hu), fun j => (setL_frozen vs w b o _).trans (h.2.2 j)⟩
theorem crafts_kept {w w' : World} {B B' n : Nat} {A : Option Addr} {L : List CC} (h : Crafts w B A n L) (hb : Below B' w w') (hB : B ≤ B') : Crafts w' B A n L := h.on hb hB
/-- The shallowest of the first k + 1 craft, the first one on ties. -/
def shS (L : List CC) : Nat → CC
  | 0 => cOf L 0
  | k + 1 => if (cOf L (k + 1)).dr < (shS L k).dr then cOf L (k + 1) else shS L k
theorem shS_yes {L : List CC} {k : Nat} {u v : CC} (hv : L[k + 1]? = some v) (hu : u = shS L k) (h : v.dr < u.dr) : v = shS L (k + 1) := by
  rw [shS, cOf_at hv, ← hu, if_pos h]
theorem shS_no {L : List CC} {k : Nat} {u v : CC} (hv : L[k + 1]? = some v) (hu : u = shS L k) (h : ¬ v.dr < u.dr) : u = shS L (k + 1) := by
  rw [shS, cOf_at hv, ← hu, if_neg h]
def shK (L : List CC) : Bool := areC L && decide (0 < L.length)
def shV (L : List CC) : Int := if shK L then (shS L (L.length - 1)).id else 0
def ShPost (L : List CC) (w : World) (e : Ending) (w' : World) : Prop := e = .returned (.tuple #[.int .i64 (shV L), .bool (shK L)]) ∧ Below w.heap.size w w'
theorem sh_no {L : List CC} {w w' : World} (hk : shK L = false) (hb : Below w.heap.size w w') : ShPost L w (.returned (.tuple #[.int .i64 0, .bool false])) w' := ⟨by unfold shV; rw [hk]; rfl, hb⟩
theorem sh_yes {L : List CC} {u : CC} {w w' : World} (hk : shK L = true) (hu : u = shS L (L.length - 1)) (hb : Below w.heap.size w w') : ShPost L w (.returned (.tuple #[.int .i64 u.id, .bool true])) w' := ⟨by unfold shV; rw [hk, if_pos rfl, hu], hb⟩
theorem shK_1 {L : List CC} (h : areC L = false) : shK L = false := by unfold shK; rw [h]; rfl
theorem shK_2 {L : List CC} (h : L.length = 0) : shK L = false := by unfold shK; rw [decide_eq_false (by omega), Bool.and_false]
theorem shK_3 {L : List CC} (h : areC L = true) (h0 : 0 < L.length) : shK L = true := by unfold shK; rw [h, decide_eq_true h0]; rfl
theorem minD_any (u v : CC) (w : World) : Calls Try.prog 96 #[.agg #[.int .i64 u.id, .string u.nm, .int .i64 u.dr, .int .i64 u.ah, .int .i64 u.be, .int .i64 u.sp, .int .i64 u.fu], .agg #[.int .i64 v.id, .string v.nm, .int .i64 v.dr, .int .i64 v.ah, .int .i64 v.be, .int .i64 v.sp, .int .i64 v.fu]] w fun e w' => e = .returned (.int .i64 (sgn (u.dr - v.dr))) ∧ Below w.heap.size w w' := by
  have HB : Hid (Below w.heap.size w ((w.alloc (.cells #[.int .i64 u.id, .string u.nm, .int .i64 u.dr, .int .i64 u.ah, .int .i64 u.be, .int .i64 u.sp, .int .i64 u.fu] 31)).alloc (.cells #[.int .i64 v.id, .string v.nm, .int .i64 v.dr, .int .i64 v.ah, .int .i64 v.be, .int .i64 v.sp, .int .i64 v.fu] 31))) := Lib.hid (box2 (Below.refl _ _)).1
  go_enter Try.func96, Try.ntmps96
  go_wp2_with fail
  refine (cmp_any _ _ _).mono ?_
  rintro e w' ⟨rfl, rfl⟩
  go_wp2_with fail
  go_ret
  exact ⟨rfl, HB.out⟩
theorem minD_v (u v : CC) (x : Int) (h : sgn (u.dr - v.dr) = x) (w : World) : Calls Try.prog 96 #[.agg #[.int .i64 u.id, .string u.nm, .int .i64 u.dr, .int .i64 u.ah, .int .i64 u.be, .int .i64 u.sp, .int .i64 u.fu], .agg #[.int .i64 v.id, .string v.nm, .int .i64 v.dr, .int .i64 v.ah, .int .i64 v.be, .int .i64 v.sp, .int .i64 v.fu]] w fun e w' => e = .returned (.int .i64 x) ∧ Below w.heap.size w w' := h ▸ minD_any u v w
set_option maxRecDepth 20000 in
set_option maxHeartbeats 3200000 in
theorem minC_any (A : Option Addr) (n c : Nat) (L : List CC) (w : World) (hs : Crafts w w.heap.size A n L) (h0 : 0 < n) (hm : n ≤ 1048576) :
    Calls Try.prog 95 #[.slice A n c, .func (.func 96) #[] #[]] w fun e w' => ∃ u : CC, Hid (u = shS L (L.length - 1)) ∧ e = .returned (.agg #[.int .i64 u.id, .string u.nm, .int .i64 u.dr, .int .i64 u.ah, .int .i64 u.be, .int .i64 u.sp, .int .i64 u.fu]) ∧ Below w.heap.size w w' := by
  obtain rfl := hs.1
  have HS := Lib.hid hs
  obtain ⟨b, o, v, rfl, hbl, hL, hn, c0, c1, c2, c3, c4, c5, c6⟩ := (crafts_at hs ((Below.refl _ w).alloc (Nat.le_refl _) (.cells #[.int .i64 0, .string ⟨#[]⟩, .int .i64 0, .int .i64 0, .int .i64 0, .int .i64 0, .int .i64 0] 31))).2 0 h0
  have HU : Hid (v = shS L (1 - 1)) := Lib.hid (cOf_at hL).symm
  obtain ⟨W0, hW0⟩ : ∃ W0, W0 = (w.alloc (.cells #[.int .i64 0, .string ⟨#[]⟩, .int .i64 0, .int .i64 0, .int .i64 0, .int .i64 0, .int .i64 0] 31)).alloc (.cells #[.int .i64 v.id, .string v.nm, .int .i64 v.dr, .int .i64 v.ah, .int .i64 v.be, .int .i64 v.sp, .int .i64 v.fu] 31) := ⟨_, rfl⟩
  have HW : Hid (Below w.heap.size w W0 ∧ Has W0 w.heap.size [.int .i64 0, .string ⟨#[]⟩, .int .i64 0, .int .i64 0, .int .i64 0, .int .i64 0, .int .i64 0] ∧ Has W0 (w.heap.size + 1) [.int .i64 v.id, .string v.nm, .int .i64 v.dr, .int .i64 v.ah, .int .i64 v.be, .int .i64 v.sp, .int .i64 v.fu]) := by rw [hW0]; exact box2 (Below.refl _ _)
  have HE := Lib.hid hW0
  have HB0 := Lib.hid HW.out.1
  have HZ0 := Lib.hid HW.out.2.1
  have HM0 := Lib.hid HW.out.2.2
  clear hs hL hW0
  simp only [Nat.zero_mul, Nat.add_zero] at c0 c1 c2 c3 c4 c5 c6
  go_enter Try.func95, Try.ntmps95
  go_wp2_with fail
  rw [← HE.out]
  clear c0 c1 c2 c3 c4 c5 c6
  go_loopw [6] (fun i wr => ∃ (k : Nat) (u : CC), 1 ≤ k ∧ k ≤ L.length ∧ i = .int .i64 k ∧ Hid (u = shS L (k - 1)) ∧ Hid (Has wr (w.heap.size + 1) [.int .i64 u.id, .string u.nm, .int .i64 u.dr, .int .i64 u.ah, .int .i64 u.be, .int .i64 u.sp, .int .i64 u.fu]) ∧ Hid (Has wr w.heap.size [.int .i64 0, .string ⟨#[]⟩, .int .i64 0, .int .i64 0, .int .i64 0, .int .i64 0, .int .i64 0]) ∧ Hid (Below w.heap.size w wr)) (fun i _ => L.length - (intOf i).toNat)
  case atStart => exact ⟨1, v, Nat.le_refl _, by omega, rfl, HU, HM0, HZ0, HB0⟩
  case round =>
    obtain ⟨k, u, hk1, hk, rfl, hu, hM, hZ, hB⟩ := hrel
    obtain ⟨W1, rfl⟩ : ∃ W : World, W = wr := ⟨_, rfl⟩
    have a0 := hM.out.at_ 0 _ rfl
    have a1 := hM.out.at_ 1 _ rfl
    have a2 := hM.out.at_ 2 _ rfl
    have a3 := hM.out.at_ 3 _ rfl
    have a4 := hM.out.at_ 4 _ rfl
    have a5 := hM.out.at_ 5 _ rfl
    have a6 := hM.out.at_ 6 _ rfl
    by_cases hlt : k < L.length
    · obtain ⟨b', o', x, hA, hbl', hL, hn', c0, c1, c2, c3, c4, c5, c6⟩ := (crafts_at HS.out hB.out).2 k hlt
      obtain ⟨rfl, rfl⟩ : b = b' ∧ o = o' := by injection hA with h; injection h with h h'; exact ⟨h, h'⟩
      have HX : Hid (L[(k - 1) + 1]? = some x) := by unfold Hid; rw [show k - 1 + 1 = k by omega]; exact hL
      clear hA hL hn'
      by_cases hx : x.dr < u.dr
      · have HV := Lib.hid (sgn_neg (n := x.dr - u.dr) (by omega))
        have HN : Hid (x = shS L (k + 1 - 1)) := Lib.hid (by have := shS_yes HX.out hu.out hx; rwa [show k - 1 + 1 = k + 1 - 1 by omega] at this)
        go_wp2_with fail
        have lc0 := lcell (a0)
        have lc1 := lcell (a1)
        have lc2 := lcell (a2)
        have lc3 := lcell (a3)
        have lc4 := lcell (a4)
        have lc5 := lcell (a5)
        have lc6 := lcell (a6)
        have lc7 := lcell (c0)
        have lc8 := lcell (c1)
        have lc9 := lcell (c2)
        have lc10 := lcell (c3)
        have lc11 := lcell (c4)
        have lc12 := lcell (c5)
        have lc13 := lcell (c6)
        refine region_later (W := W1) (by kernel_rfl) (by kernel_rfl) (Below.refl _ _) ?_
        repeat (go_big_quiet_step (((go_at_call 96; exact later_call (minD_v x u _ HV.out _)))))
        refine wpQuiet_nil ?_
        intro W2 hW1
        have HL : Hid (Below W1.heap.size W1 W2) := by obtain ⟨x, rfl⟩ := hW1; exact Lib.hid x.below
        clear hW1 lc0 lc1 lc2 lc3 lc4 lc5 lc6 lc7 lc8 lc9 lc10 lc11 lc12 lc13
        have HB2 := Lib.hid (bthen hB.out HL.out hB.out.size)
        have HM2 := Lib.hid (hM.out.next HL.out)
        have HZ2 := Lib.hid (hZ.out.next HL.out)
        clear a0 a1 a2 a3 a4 a5 a6
        have a0 := HM2.out.at_ 0 _ rfl
        have a1 := HM2.out.at_ 1 _ rfl
        have a2 := HM2.out.at_ 2 _ rfl
        have a3 := HM2.out.at_ 3 _ rfl
        have a4 := HM2.out.at_ 4 _ rfl
        have a5 := HM2.out.at_ 5 _ rfl
        have a6 := HM2.out.at_ 6 _ rfl
        have f0 := HM2.out.free 0
        have f1 := HM2.out.free 1
        have f2 := HM2.out.free 2
        have f3 := HM2.out.free 3
        have f4 := HM2.out.free 4
        have f5 := HM2.out.free 5
        have f6 := HM2.out.free 6
        have d0 := cell_next HL.out c0
        have d1 := cell_next HL.out c1
        have d2 := cell_next HL.out c2
        have d3 := cell_next HL.out c3
        have d4 := cell_next HL.out c4
        have d5 := cell_next HL.out c5
        have d6 := cell_next HL.out c6
        clear c0 c1 c2 c3 c4 c5 c6
        have HM3 := Lib.hid (HM2.out.lay rfl x)
        have HZ3 := Lib.hid (HZ2.out.past (b := w.heap.size + 1) (o := 0) (by omega) [.int .i64 x.id, .string x.nm, .int .i64 x.dr, .int .i64 x.ah, .int .i64 x.be, .int .i64 x.sp, .int .i64 x.fu])
        have HB3 := Lib.hid (setL_below [.int .i64 x.id, .string x.nm, .int .i64 x.dr, .int .i64 x.ah, .int .i64 x.be, .int .i64 x.sp, .int .i64 x.fu] HB2.out (Nat.le_succ w.heap.size) 0)
        go_wp2_with fail
        go_roundw
        case rel => exact ⟨k + 1, x, by omega, by omega, by go_num, HN, HM3, HZ3, HB3⟩
        case measure => simp [intOf]; omega
      · have HN : Hid (u = shS L (k + 1 - 1)) := Lib.hid (by have := shS_no HX.out hu.out hx; rwa [show k - 1 + 1 = k + 1 - 1 by omega] at this)
        rcases Int.lt_or_eq_of_le (show u.dr ≤ x.dr by omega) with hy | hy
        · have HV := Lib.hid (sgn_pos (n := x.dr - u.dr) (by omega))
          go_wp2_with fail
          have lc0 := lcell (a0)
          have lc1 := lcell (a1)
          have lc2 := lcell (a2)
          have lc3 := lcell (a3)
          have lc4 := lcell (a4)
          have lc5 := lcell (a5)
          have lc6 := lcell (a6)
          have lc7 := lcell (c0)
          have lc8 := lcell (c1)
          have lc9 := lcell (c2)
          have lc10 := lcell (c3)
          have lc11 := lcell (c4)
          have lc12 := lcell (c5)
          have lc13 := lcell (c6)
          refine region_later (W := W1) (by kernel_rfl) (by kernel_rfl) (Below.refl _ _) ?_
          repeat (go_big_quiet_step (((go_at_call 96; exact later_call (minD_v x u _ HV.out _)))))
          refine wpQuiet_nil ?_
          intro W2 hW1
          have HL : Hid (Below W1.heap.size W1 W2) := by obtain ⟨x, rfl⟩ := hW1; exact Lib.hid x.below
          clear hW1 lc0 lc1 lc2 lc3 lc4 lc5 lc6 lc7 lc8 lc9 lc10 lc11 lc12 lc13
          have HB2 := Lib.hid (bthen hB.out HL.out hB.out.size)
          have HM2 := Lib.hid (hM.out.next HL.out)
          have HZ2 := Lib.hid (hZ.out.next HL.out)
          clear a0 a1 a2 a3 a4 a5 a6 c0 c1 c2 c3 c4 c5 c6
          go_wp2_with fail
          go_roundw
          case rel => exact ⟨k + 1, u, by omega, by omega, by go_num, HN, HM2, HZ2, HB2⟩
          case measure => simp [intOf]; omega
        · have HV := Lib.hid (sgn_zero (n := x.dr - u.dr) (by omega))
          clear hy hx
          go_wp2_with fail
          have lc0 := lcell (a0)
          have lc1 := lcell (a1)
          have lc2 := lcell (a2)
          have lc3 := lcell (a3)
          have lc4 := lcell (a4)
          have lc5 := lcell (a5)
          have lc6 := lcell (a6)
          have lc7 := lcell (c0)
          have lc8 := lcell (c1)
          have lc9 := lcell (c2)
          have lc10 := lcell (c3)
          have lc11 := lcell (c4)
          have lc12 := lcell (c5)
          have lc13 := lcell (c6)
          refine region_later (W := W1) (by kernel_rfl) (by kernel_rfl) (Below.refl _ _) ?_
          repeat (go_big_quiet_step (((go_at_call 96; exact later_call (minD_v x u _ HV.out _)))))
          refine wpQuiet_nil ?_
          intro W2 hW1
          have HL : Hid (Below W1.heap.size W1 W2) := by obtain ⟨x, rfl⟩ := hW1; exact Lib.hid x.below
          clear hW1 lc0 lc1 lc2 lc3 lc4 lc5 lc6 lc7 lc8 lc9 lc10 lc11 lc12 lc13
          have HB2 := Lib.hid (bthen hB.out HL.out hB.out.size)
          have HM2 := Lib.hid (hM.out.next HL.out)
          have HZ2 := Lib.hid (hZ.out.next HL.out)
          clear a0 a1 a2 a3 a4 a5 a6 c0 c1 c2 c3 c4 c5 c6
          go_wp2_with fail
          go_roundw
          case rel => exact ⟨k + 1, u, by omega, by omega, by go_num, HN, HM2, HZ2, HB2⟩
          case measure => simp [intOf]; omega
    · obtain rfl : k = L.length := by omega
      have z0 := hZ.out.at_ 0 _ rfl
      have z1 := hZ.out.at_ 1 _ rfl
      have z2 := hZ.out.at_ 2 _ rfl
      have z3 := hZ.out.at_ 3 _ rfl
      have z4 := hZ.out.at_ 4 _ rfl
      have z5 := hZ.out.at_ 5 _ rfl
      have z6 := hZ.out.at_ 6 _ rfl
      have f0 := hZ.out.free 0
      have f1 := hZ.out.free 1
      have f2 := hZ.out.free 2
      have f3 := hZ.out.free 3
      have f4 := hZ.out.free 4
      have f5 := hZ.out.free 5
      have f6 := hZ.out.free 6
      have HR3 := Lib.hid (hZ.out.lay rfl u)
      have HB3 := Lib.hid (setL_below [.int .i64 u.id, .string u.nm, .int .i64 u.dr, .int .i64 u.ah, .int .i64 u.be, .int .i64 u.sp, .int .i64 u.fu] hB.out (Nat.le_refl w.heap.size) 0)
      have r0 := HR3.out.at_ 0 _ rfl
      have r1 := HR3.out.at_ 1 _ rfl
      have r2 := HR3.out.at_ 2 _ rfl
      have r3 := HR3.out.at_ 3 _ rfl
      have r4 := HR3.out.at_ 4 _ rfl
      have r5 := HR3.out.at_ 5 _ rfl
      have r6 := HR3.out.at_ 6 _ rfl
      simp only [setL] at r0 r1 r2 r3 r4 r5 r6
      go_wp2_with fail
      refine bodyPost_ret (v := .agg #[.int .i64 u.id, .string u.nm, .int .i64 u.dr, .int .i64 u.ah, .int .i64 u.be, .int .i64 u.sp, .int .i64 u.fu]) (by simp [results, Try.results95, go_sem, r0, r1, r2, r3, r4, r5, r6]) rfl ⟨u, hu, rfl, HB3.out⟩
end Go.Proofs.Ytfffahkommbheaa
