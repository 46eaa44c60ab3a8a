/-
  Contracts of spec.l3Good, spec.AreGauges over this translation. Conditions: stated at each theorem.
-/
import Derived.Test.YtdmnkmdlochogaaAg
namespace Go.Proofs.Ytdmnkmdlochogaa
open Go.RowKit

theorem first_iff (P : GG → Bool) (L : List GG) : (0 ≤ firstI P L) ↔ ∃ x ∈ L, P x = true := by
  unfold firstI
  constructor
  · intro h
    split at h
    · rename_i h1; exact List.findIdx_lt_length.1 h1
    · omega
  · intro h
    rw [if_pos (List.findIdx_lt_length.2 h)]
    omega
theorem has_yes {L : List GG} {k j : Nat} {nm : ByteArray} {g : GG} (hj : j < k) (h : L[j]? = some g) (he : g.nm = nm) : hasB nm (L.take k) = true := by
  refine decide_eq_true ((first_iff _ _).2 ⟨g, ?_, decide_eq_true he⟩)
  exact List.mem_of_getElem? (i := j) (by rw [List.getElem?_take, if_pos hj]; exact h)
theorem has_none {L : List GG} {k : Nat} {nm : ByteArray} (h : ∀ j, j < k → ∀ g, L[j]? = some g → g.nm ≠ nm) : hasB nm (L.take k) = false := by
  refine decide_eq_false fun h1 => ?_
  obtain ⟨x, hx, hp⟩ := (first_iff _ _).1 h1
  obtain ⟨j, hj⟩ := List.mem_iff_getElem?.1 hx
  rw [List.getElem?_take] at hj
  split at hj
  · rename_i hjk; exact h j hjk x hj (of_decide_eq_true hp)
  · cases hj
set_option maxRecDepth 20000 in
set_option maxHeartbeats 3200000 in
theorem good_spec (A : Option Addr) (n c : Nat) (L : List GG) (w : World) (hs : Gauges w w.heap.size A n L) (hm : n ≤ maxLen) :
    Calls Try.prog 96 #[.slice A n c] w fun e w' => e = .returned (.bool (areB L)) ∧ Below w.heap.size w w' := by
  obtain rfl := hs.1
  have HS := Lib.hid hs
  clear hs
  unfold maxLen at hm
  go_enter Try.func96, Try.ntmps96
  go_wp2_with fail
  go_loopw [3] (fun i wr => ∃ k : Nat, k ≤ L.length ∧ k ≤ 7 ∧ i = .int .i64 k ∧ Hid (okG L k = true) ∧ Hid (Below w.heap.size w wr)) (fun i _ => L.length - (intOf i).toNat)
  case atStart => exact ⟨0, Nat.zero_le _, Nat.zero_le _, rfl, by simp [Hid, okG], Lib.hid (Below.refl _ _)⟩
  case round =>
    obtain ⟨k, hk, hk7, rfl, hA, hB⟩ := hrel
    by_cases hlt : k < L.length
    · by_cases hk6 : k ≤ 6
      · obtain ⟨b, o, id, nm, ze, l, A', c', rfl, hbl, hL, c0, c1, c2, c3, hsp, hl, hn⟩ := (gauges_at HS.out hB.out).2 k hlt
        have HK := Lib.hid hL
        have HSP := Lib.hid hsp
        clear hL hsp
        obtain ⟨W0, rfl⟩ : ∃ W : World, W = wr := ⟨_, rfl⟩
        go_wp2_with fail
        rcases hv : gaugeB id nm ze l with _ | _
        · have HV := Lib.hid hv
          have HR := Lib.hid (areB_bad (okG_bad hlt (step_invalid HK.out hv)))
          clear hv
          have lc0 := lcell (c0)
          have lc1 := lcell (c1)
          have lc2 := lcell (c2)
          have lc3 := lcell (c3)
          refine region_later (W := W0) (by kernel_rfl) (by kernel_rfl) (Below.refl _ _) ?_
          repeat (go_big_quiet_step (((go_at_call 85; exact later_call (one_v _ _ _ _ _ _ l _ HV.out _ (spots_more HSP.out (Later.below _)) hl hn)))))
          refine wpQuiet_nil ?_
          intro W1 hW1
          have HL : Hid (Below W0.heap.size W0 W1) := by obtain ⟨x, rfl⟩ := hW1; exact Lib.hid x.below
          clear hW1 lc0 lc1 lc2 lc3
          have HT := Lib.hid (bthen hB.out HL.out hB.out.size)
          go_wp2_with fail
          go_ret
          exact ⟨ret_bool HR.out.symm, HT.out⟩
        have HV := Lib.hid hv
        clear hv
        rcases k with _ | j
        · simp only [Nat.zero_mul, Nat.add_zero] at c0 c1 c2 c3
          have HR : Hid (okG L (0 + 1) = true) := by unfold Hid; rw [okG_succ, hA.out, step_fine0 HK.out HV.out (has_nil nm)]; rfl
          have lc0 := lcell (c0)
          have lc1 := lcell (c1)
          have lc2 := lcell (c2)
          have lc3 := lcell (c3)
          refine region_later (W := W0) (by kernel_rfl) (by kernel_rfl) (Below.refl _ _) ?_
          repeat (go_big_quiet_step (((go_at_call 85; exact later_call (one_v _ _ _ _ _ _ l _ HV.out _ (spots_more HSP.out (Later.below _)) hl hn)))))
          refine wpQuiet_nil ?_
          intro W1 hW1
          have HL : Hid (Below W0.heap.size W0 W1) := by obtain ⟨x, rfl⟩ := hW1; exact Lib.hid x.below
          clear hW1 lc0 lc1 lc2 lc3
          have HT := Lib.hid (bthen hB.out HL.out hB.out.size)
          clear c0 c1 c2 c3
          go_wp2_with fail
          go_loopw [4] (fun i wq => i = .int .i64 0 ∧ Hid (Below w.heap.size w wq)) (fun i _ => 1 - (intOf i).toNat)
          case atStart => exact ⟨rfl, HT⟩
          case round =>
            obtain ⟨rfl, hB2⟩ := hrel
            go_wp2_with fail
            go_roundw
            case rel => exact ⟨1, by omega, by omega, by go_num, HR, hB2⟩
            case measure => simp [intOf]; omega
        · obtain ⟨b', o', id', nm', ze', l', A2, c2', hA', hb', hL', d0, d1, d2, d3, _⟩ := (gauges_at HS.out hB.out).2 j (by omega)
          obtain ⟨rfl, rfl⟩ : b = b' ∧ o = o' := by injection hA' with h; injection h with h h'; exact ⟨h, h'⟩
          have HK' := Lib.hid hL'
          clear hA' hL' d1 d2 d3
          by_cases hx : id ≤ id'
          · have HR := Lib.hid (areB_bad (okG_bad hlt (step_order HK.out HK'.out (by dsimp only; omega))))
            have hd : decide (id ≤ id') = true := decide_eq_true hx
            have lc0 := lcell (c0)
            have lc1 := lcell (c1)
            have lc2 := lcell (c2)
            have lc3 := lcell (c3)
            have lc4 := lcell (d0)
            refine region_later (W := W0) (by kernel_rfl) (by kernel_rfl) (Below.refl _ _) ?_
            repeat (go_big_quiet_step (((go_at_call 85; exact later_call (one_v _ _ _ _ _ _ l _ HV.out _ (spots_more HSP.out (Later.below _)) hl hn)))))
            refine wpQuiet_nil ?_
            intro W1 hW1
            have HL : Hid (Below W0.heap.size W0 W1) := by obtain ⟨x, rfl⟩ := hW1; exact Lib.hid x.below
            clear hW1 lc0 lc1 lc2 lc3 lc4
            have HT := Lib.hid (bthen hB.out HL.out hB.out.size)
            go_wp2_with fail
            go_ret
            exact ⟨ret_bool HR.out.symm, HT.out⟩
          have hd : decide (id ≤ id') = false := decide_eq_false hx
          have lc0 := lcell (c0)
          have lc1 := lcell (c1)
          have lc2 := lcell (c2)
          have lc3 := lcell (c3)
          have lc4 := lcell (d0)
          refine region_later (W := W0) (by kernel_rfl) (by kernel_rfl) (Below.refl _ _) ?_
          repeat (go_big_quiet_step (((go_at_call 85; exact later_call (one_v _ _ _ _ _ _ l _ HV.out _ (spots_more HSP.out (Later.below _)) hl hn)))))
          refine wpQuiet_nil ?_
          intro W1 hW1
          have HL : Hid (Below W0.heap.size W0 W1) := by obtain ⟨x, rfl⟩ := hW1; exact Lib.hid x.below
          clear hW1 lc0 lc1 lc2 lc3 lc4
          have HT := Lib.hid (bthen hB.out HL.out hB.out.size)
          clear c0 c1 c2 c3 d0
          go_wp2_with fail
          go_loopw [4] (fun i wq => ∃ q : Nat, q ≤ j + 1 ∧ i = .int .i64 q ∧ Hid (∀ p, p < q → ∀ g, L[p]? = some g → g.nm ≠ nm) ∧ Hid (Below w.heap.size w wq)) (fun i _ => j + 1 - (intOf i).toNat)
          case atStart => exact ⟨0, Nat.zero_le _, rfl, Lib.hid fun p hp => absurd hp (by omega), HT⟩
          case round =>
            obtain ⟨q, hq, rfl, hN, hB2⟩ := hrel
            by_cases hqlt : q < j + 1
            · obtain ⟨b3, o3, id3, nm3, ze3, l3, A3, c3, hA3, hb3, hL3, p0, p1, p2, p3, _⟩ := (gauges_at HS.out hB2.out).2 q (by omega)
              obtain ⟨rfl, rfl⟩ : b = b3 ∧ o = o3 := by injection hA3 with h; injection h with h h'; exact ⟨h, h'⟩
              obtain ⟨b4, o4, id4, nm4, ze4, l4, A4, c4, hA4, hb4, hL4, q0, q1, q2, q3, _⟩ := (gauges_at HS.out hB2.out).2 (j + 1) hlt
              obtain ⟨rfl, rfl⟩ : b = b4 ∧ o = o4 := by injection hA4 with h; injection h with h h'; exact ⟨h, h'⟩
              have e4 : (⟨id, nm, ze, l⟩ : GG) = ⟨id4, nm4, ze4, l4⟩ := Option.some.inj (HK.out.symm.trans hL4)
              obtain ⟨rfl, rfl, rfl, rfl⟩ := GG.mk.inj e4
              have HK3 := Lib.hid hL3
              clear hA3 hL3 p0 p2 p3 hA4 hL4 e4 q0 q2 q3
              obtain ⟨W2, rfl⟩ : ∃ W : World, W = wr := ⟨_, rfl⟩
              by_cases hne : nm3 = nm
              · have HR := Lib.hid (areB_bad (okG_bad hlt (step_named HK.out (has_yes hqlt HK3.out hne))))
                subst hne
                go_wp2_with fail
                have lc0 := lcell (p1)
                have lc1 := lcell (q1)
                refine region_later (W := W2) (by kernel_rfl) (by kernel_rfl) (Below.refl _ _) ?_
                repeat (go_big_quiet_step (fail))
                refine wpQuiet_nil ?_
                intro W3 hW1
                have HL : Hid (Below W2.heap.size W2 W3) := by obtain ⟨x, rfl⟩ := hW1; exact Lib.hid x.below
                clear hW1 lc0 lc1
                have HT2 := Lib.hid (bthen hB2.out HL.out hB2.out.size)
                clear p1 q1
                go_wp2_with fail
                go_ret
                exact ⟨ret_bool HR.out.symm, HT2.out⟩
              · have hne' := ba_ne hne
                have HN2 : Hid (∀ p, p < q + 1 → ∀ g, L[p]? = some g → g.nm ≠ nm) := Lib.hid fun p hp g hg => by
                  rcases Nat.lt_or_ge p q with h | h
                  · exact hN.out p h g hg
                  · obtain rfl : p = q := by omega
                    obtain rfl := Option.some.inj (HK3.out.symm.trans hg)
                    exact hne
                clear hne
                go_wp2_with fail
                have lc0 := lcell (p1)
                have lc1 := lcell (q1)
                refine region_later (W := W2) (by kernel_rfl) (by kernel_rfl) (Below.refl _ _) ?_
                repeat (go_big_quiet_step (fail))
                refine wpQuiet_nil ?_
                intro W3 hW1
                have HL : Hid (Below W2.heap.size W2 W3) := by obtain ⟨x, rfl⟩ := hW1; exact Lib.hid x.below
                clear hW1 lc0 lc1
                have HT2 := Lib.hid (bthen hB2.out HL.out hB2.out.size)
                clear p1 q1
                go_wp2_with fail
                go_roundw
                case rel => exact ⟨q + 1, by omega, by go_num, HN2, HT2⟩
                case measure => simp [intOf]; omega
            · obtain rfl : q = j + 1 := by omega
              have HR : Hid (okG L (j + 1 + 1) = true) := by unfold Hid; rw [okG_succ, hA.out, step_fine HK.out HK'.out HV.out (by dsimp only; omega) (has_none hN.out)]; rfl
              go_wp2_with fail
              go_roundw
              case rel => exact ⟨j + 1 + 1, by omega, by omega, by go_num, HR, hB2⟩
              case measure => simp [intOf]; omega
      · have HR : Hid (areB L = false) := areB_long (by omega)
        have hl6 : decide ((L.length : Int) ≤ 6) = false := decide_eq_false (by omega)
        go_wp2_with fail
        go_ret
        exact ⟨ret_bool (by first | exact HR.out.symm | exact (decide_eq_false (by omega)).trans HR.out.symm), hB.out⟩
    · obtain rfl : k = L.length := by omega
      by_cases h6 : L.length ≤ 6
      · have HR : Hid (areB L = true) := areB_good hA.out h6
        go_wp2_with fail
        go_ret
        exact ⟨ret_bool (by first | exact HR.out.symm | exact (decide_eq_true (by omega)).trans HR.out.symm), hB.out⟩
      · have HR : Hid (areB L = false) := areB_long h6
        go_wp2_with fail
        go_ret
        exact ⟨ret_bool (by first | exact HR.out.symm | exact (decide_eq_false (by omega)).trans HR.out.symm), hB.out⟩
theorem areG_spec (A : Option Addr) (n c : Nat) (L : List GG) (w : World) (hs : Gauges w w.heap.size A n L) (hm : n ≤ maxLen) :
    Calls Try.prog 30 #[.slice A n c] w fun e w' => e = .returned (.bool (areB L)) ∧ Below w.heap.size w w' := by
  have H := Lib.hid (good_spec A n c L w hs hm)
  clear hs
  go_enter Try.func30, Try.ntmps30
  go_wp2_with fail
  refine H.out.mono ?_
  rintro e w1 ⟨rfl, hb⟩
  have HT := Lib.hid hb
  clear hb
  go_wp2_with fail
  go_ret
  exact ⟨rfl, HT.out⟩
theorem good_v (A : Option Addr) (n c : Nat) (L : List GG) (v : Bool) (h : areB L = v) (w : World) (hs : Gauges w w.heap.size A n L) (hm : n ≤ maxLen) :
    Calls Try.prog 96 #[.slice A n c] w fun e w' => e = .returned (.bool v) ∧ Below w.heap.size w w' := h ▸ good_spec A n c L w hs hm
theorem areG_v (A : Option Addr) (n c : Nat) (L : List GG) (v : Bool) (h : areB L = v) (w : World) (hs : Gauges w w.heap.size A n L) (hm : n ≤ maxLen) (hcap : n ≤ c) :
    Calls Try.prog 29 #[.slice A n c] w fun e w' => e = .returned (.bool v) ∧ Below w.heap.size w w' := h ▸ areG_impl A n c L w hs hm hcap
end Go.Proofs.Ytdmnkmdlochogaa
