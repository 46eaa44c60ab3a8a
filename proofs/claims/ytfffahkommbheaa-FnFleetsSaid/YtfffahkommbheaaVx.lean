/-
  Contracts of spec.l5Good, spec.AreCraft over this translation. Conditions: stated at each theorem.
-/
import Derived.Test.YtfffahkommbheaaVw
namespace Go.Proofs.Ytfffahkommbheaa
open Go.RowKit

theorem firstC_iff (P : CC → Bool) (L : List CC) : (0 ≤ firstC P L) ↔ ∃ x ∈ L, P x = true := by
  unfold firstC
  constructor
  · intro h
    split at h
    · rename_i h1; exact List.findIdx_lt_length.1 h1
    · omega
  · intro h
    rw [if_pos (List.findIdx_lt_length.2 h)]
    omega
theorem hasC_yes {L : List CC} {k j : Nat} {nm : ByteArray} {v : CC} (hj : j < k) (h : L[j]? = some v) (he : v.nm = nm) : hasC nm (L.take k) = true := by
  refine decide_eq_true ((firstC_iff _ _).2 ⟨v, ?_, decide_eq_true he⟩)
  exact List.mem_of_getElem? (i := j) (by rw [List.getElem?_take, if_pos hj]; exact h)
theorem hasC_none {L : List CC} {k : Nat} {nm : ByteArray} (h : ∀ j, j < k → ∀ v, L[j]? = some v → v.nm ≠ nm) : hasC nm (L.take k) = false := by
  refine decide_eq_false fun h1 => ?_
  obtain ⟨x, hx, hp⟩ := (firstC_iff _ _).1 h1
  obtain ⟨j, hj⟩ := List.mem_iff_getElem?.1 hx
  rw [List.getElem?_take] at hj
  split at hj
  · rename_i hjk; exact h j hjk x hj (of_decide_eq_true hp)
  · cases hj
set_option maxRecDepth 20000 in
set_option maxHeartbeats 3200000 in
theorem goodC_spec (A : Option Addr) (n c : Nat) (L : List CC) (w : World) (hs : Crafts w w.heap.size A n L) (hm : n ≤ maxLen) :
    Calls Try.prog 87 #[.slice A n c] w fun e w' => e = .returned (.bool (areC L)) ∧ Below w.heap.size w w' := by
  obtain rfl := hs.1
  have HS := Lib.hid hs
  clear hs
  unfold maxLen at hm
  go_enter Try.func87, Try.ntmps87
  go_wp2_with fail
  go_loopw [3] (fun i wr => ∃ k : Nat, k ≤ L.length ∧ i = .int .i64 k ∧ Hid (okC L k = true) ∧ Hid (Below w.heap.size w wr)) (fun i _ => L.length - (intOf i).toNat)
  case atStart => exact ⟨0, Nat.zero_le _, rfl, by simp [Hid, okC], Lib.hid (Below.refl _ _)⟩
  case round =>
    obtain ⟨k, hk, rfl, hA, hB⟩ := hrel
    by_cases hlt : k < L.length
    · obtain ⟨b, o, v, rfl, hbl, hL, hn, c0, c1, c2, c3, c4, c5, c6⟩ := (crafts_at HS.out hB.out).2 k hlt
      have HK := Lib.hid hL
      clear hL
      obtain ⟨W0, rfl⟩ : ∃ W : World, W = wr := ⟨_, rfl⟩
      go_wp2_with fail
      rcases hv : craftB v with _ | _
      · have HV := Lib.hid hv
        have HR := Lib.hid (areC_bad (okC_bad hlt (stepC_invalid HK.out hv)))
        clear hv
        have lc0 := lcell (c0)
        have lc1 := lcell (c1)
        have lc2 := lcell (c2)
        have lc3 := lcell (c3)
        have lc4 := lcell (c4)
        have lc5 := lcell (c5)
        have lc6 := lcell (c6)
        refine region_later (W := W0) (by kernel_rfl) (by kernel_rfl) (Below.refl _ _) ?_
        repeat (go_big_quiet_step (((go_at_call 100; exact later_call (craftOne_v v _ HV.out _ hn)))))
        refine wpQuiet_nil ?_
        intro W1 hW1
        have HL : Hid (Below W0.heap.size W0 W1) := by obtain ⟨x, rfl⟩ := hW1; exact Lib.hid x.below
        clear hW1 lc0 lc1 lc2 lc3 lc4 lc5 lc6
        have HT := Lib.hid (bthen hB.out HL.out hB.out.size)
        go_wp2_with fail
        go_ret
        exact ⟨ret_bool HR.out.symm, HT.out⟩
      have HV := Lib.hid hv
      clear hv
      rcases k with _ | j
      · simp only [Nat.zero_mul, Nat.add_zero] at c0 c1 c2 c3 c4 c5 c6
        have HR : Hid (okC L (0 + 1) = true) := by unfold Hid; rw [okC_succ, hA.out, stepC_fine0 HK.out HV.out (hasC_nil v.nm)]; rfl
        have lc0 := lcell (c0)
        have lc1 := lcell (c1)
        have lc2 := lcell (c2)
        have lc3 := lcell (c3)
        have lc4 := lcell (c4)
        have lc5 := lcell (c5)
        have lc6 := lcell (c6)
        refine region_later (W := W0) (by kernel_rfl) (by kernel_rfl) (Below.refl _ _) ?_
        repeat (go_big_quiet_step (((go_at_call 100; exact later_call (craftOne_v v _ HV.out _ hn)))))
        refine wpQuiet_nil ?_
        intro W1 hW1
        have HL : Hid (Below W0.heap.size W0 W1) := by obtain ⟨x, rfl⟩ := hW1; exact Lib.hid x.below
        clear hW1 lc0 lc1 lc2 lc3 lc4 lc5 lc6
        have HT := Lib.hid (bthen hB.out HL.out hB.out.size)
        clear c0 c1 c2 c3 c4 c5 c6
        go_wp2_with fail
        go_loopw [4] (fun i wq => i = .int .i64 0 ∧ Hid (Below w.heap.size w wq)) (fun i _ => 1 - (intOf i).toNat)
        case atStart => exact ⟨rfl, HT⟩
        case round =>
          obtain ⟨rfl, hB2⟩ := hrel
          go_wp2_with fail
          go_roundw
          case rel => exact ⟨1, by omega, by go_num, HR, hB2⟩
          case measure => simp [intOf]; omega
      · obtain ⟨b', o', v', hA', hb', hL', hn', d0, d1, d2, d3, d4, d5, d6⟩ := (crafts_at HS.out hB.out).2 j (by omega)
        obtain ⟨rfl, rfl⟩ : b = b' ∧ o = o' := by injection hA' with h; injection h with h h'; exact ⟨h, h'⟩
        have HK' := Lib.hid hL'
        clear hA' hL' d1 d2 d3 d4 d5 d6
        by_cases hx : v.id ≤ v'.id
        · have HR := Lib.hid (areC_bad (okC_bad hlt (stepC_order HK.out HK'.out (by omega))))
          have hd : decide (v.id ≤ v'.id) = true := decide_eq_true hx
          have lc0 := lcell (c0)
          have lc1 := lcell (c1)
          have lc2 := lcell (c2)
          have lc3 := lcell (c3)
          have lc4 := lcell (c4)
          have lc5 := lcell (c5)
          have lc6 := lcell (c6)
          have lc7 := lcell (d0)
          refine region_later (W := W0) (by kernel_rfl) (by kernel_rfl) (Below.refl _ _) ?_
          repeat (go_big_quiet_step (((go_at_call 100; exact later_call (craftOne_v v _ HV.out _ hn)))))
          refine wpQuiet_nil ?_
          intro W1 hW1
          have HL : Hid (Below W0.heap.size W0 W1) := by obtain ⟨x, rfl⟩ := hW1; exact Lib.hid x.below
          clear hW1 lc0 lc1 lc2 lc3 lc4 lc5 lc6 lc7
          have HT := Lib.hid (bthen hB.out HL.out hB.out.size)
          go_wp2_with fail
          go_ret
          exact ⟨ret_bool HR.out.symm, HT.out⟩
        have hd : decide (v.id ≤ v'.id) = false := decide_eq_false hx
        have lc0 := lcell (c0)
        have lc1 := lcell (c1)
        have lc2 := lcell (c2)
        have lc3 := lcell (c3)
        have lc4 := lcell (c4)
        have lc5 := lcell (c5)
        have lc6 := lcell (c6)
        have lc7 := lcell (d0)
        refine region_later (W := W0) (by kernel_rfl) (by kernel_rfl) (Below.refl _ _) ?_
        repeat (go_big_quiet_step (((go_at_call 100; exact later_call (craftOne_v v _ HV.out _ hn)))))
        refine wpQuiet_nil ?_
        intro W1 hW1
        have HL : Hid (Below W0.heap.size W0 W1) := by obtain ⟨x, rfl⟩ := hW1; exact Lib.hid x.below
        clear hW1 lc0 lc1 lc2 lc3 lc4 lc5 lc6 lc7
        have HT := Lib.hid (bthen hB.out HL.out hB.out.size)
        clear c0 c1 c2 c3 c4 c5 c6 d0
        go_wp2_with fail
        go_loopw [4] (fun i wq => ∃ q : Nat, q ≤ j + 1 ∧ i = .int .i64 q ∧ Hid (∀ p, p < q → ∀ u, L[p]? = some u → u.nm ≠ v.nm) ∧ Hid (Below w.heap.size w wq)) (fun i _ => j + 1 - (intOf i).toNat)
        case atStart => exact ⟨0, Nat.zero_le _, rfl, Lib.hid fun p hp => absurd hp (by omega), HT⟩
        case round =>
          obtain ⟨q, hq, rfl, hN, hB2⟩ := hrel
          by_cases hqlt : q < j + 1
          · obtain ⟨b3, o3, v3, hA3, hb3, hL3, hn3, p0, p1, p2, p3, p4, p5, p6⟩ := (crafts_at HS.out hB2.out).2 q (by omega)
            obtain ⟨rfl, rfl⟩ : b = b3 ∧ o = o3 := by injection hA3 with h; injection h with h h'; exact ⟨h, h'⟩
            obtain ⟨b4, o4, v4, hA4, hb4, hL4, hn4, q0, q1, q2, q3, q4, q5, q6⟩ := (crafts_at HS.out hB2.out).2 (j + 1) hlt
            obtain ⟨rfl, rfl⟩ : b = b4 ∧ o = o4 := by injection hA4 with h; injection h with h h'; exact ⟨h, h'⟩
            obtain rfl : v = v4 := Option.some.inj (HK.out.symm.trans hL4)
            have HK3 := Lib.hid hL3
            clear hA3 hL3 p0 p2 p3 p4 p5 p6 hA4 hL4 q0 q2 q3 q4 q5 q6
            obtain ⟨W2, rfl⟩ : ∃ W : World, W = wr := ⟨_, rfl⟩
            obtain ⟨s, hsn⟩ : ∃ s, s = v.nm := ⟨_, rfl⟩
            obtain ⟨s3, hs3⟩ : ∃ s, s = v3.nm := ⟨_, rfl⟩
            by_cases hne : v3.nm = v.nm
            · have HR := Lib.hid (areC_bad (okC_bad hlt (stepC_named HK.out (hasC_yes hqlt HK3.out hne))))
              rw [hne, ← hsn] at p1
              rw [← hsn] at q1
              clear hne hsn hs3 s3
              go_wp2_with fail
              have lc0 := lcell (p1)
              have lc1 := lcell (q1)
              refine region_later (W := W2) (by kernel_rfl) (by kernel_rfl) (Below.refl _ _) ?_
              repeat (go_big_quiet_step (fail))
              refine wpQuiet_nil ?_
              intro W3 hW1
              have HL : Hid (Below W2.heap.size W2 W3) := by obtain ⟨x, rfl⟩ := hW1; exact Lib.hid x.below
              clear hW1 lc0 lc1
              have HT2 := Lib.hid (bthen hB2.out HL.out hB2.out.size)
              clear p1 q1
              go_wp2_with fail
              go_ret
              exact ⟨ret_bool HR.out.symm, HT2.out⟩
            · have hne' := ba_ne hne
              have HN2 : Hid (∀ p, p < q + 1 → ∀ u, L[p]? = some u → u.nm ≠ v.nm) := Lib.hid fun p hp g hg => by
                rcases Nat.lt_or_ge p q with h | h
                · exact hN.out p h g hg
                · obtain rfl : p = q := by omega
                  obtain rfl := Option.some.inj (HK3.out.symm.trans hg)
                  exact hne
              clear hne hsn hs3 s s3
              go_wp2_with fail
              have lc0 := lcell (p1)
              have lc1 := lcell (q1)
              refine region_later (W := W2) (by kernel_rfl) (by kernel_rfl) (Below.refl _ _) ?_
              repeat (go_big_quiet_step (fail))
              refine wpQuiet_nil ?_
              intro W3 hW1
              have HL : Hid (Below W2.heap.size W2 W3) := by obtain ⟨x, rfl⟩ := hW1; exact Lib.hid x.below
              clear hW1 lc0 lc1
              have HT2 := Lib.hid (bthen hB2.out HL.out hB2.out.size)
              clear p1 q1
              go_wp2_with fail
              go_roundw
              case rel => exact ⟨q + 1, by omega, by go_num, HN2, HT2⟩
              case measure => simp [intOf]; omega
          · obtain rfl : q = j + 1 := by omega
            have HR : Hid (okC L (j + 1 + 1) = true) := by unfold Hid; rw [okC_succ, hA.out, stepC_fine HK.out HK'.out HV.out (by omega) (hasC_none hN.out)]; rfl
            go_wp2_with fail
            go_roundw
            case rel => exact ⟨j + 1 + 1, by omega, by go_num, HR, hB2⟩
            case measure => simp [intOf]; omega
    · obtain rfl : k = L.length := by omega
      by_cases h6 : L.length ≤ 6
      · have HR : Hid (areC L = true) := areC_good hA.out h6
        go_wp2_with fail
        go_ret
        exact ⟨ret_bool (by first | exact HR.out.symm | exact (decide_eq_true (by omega)).trans HR.out.symm), hB.out⟩
      · have HR : Hid (areC L = false) := areC_long h6
        go_wp2_with fail
        go_ret
        exact ⟨ret_bool (by first | exact HR.out.symm | exact (decide_eq_false (by omega)).trans HR.out.symm), hB.out⟩
theorem areC_spec (A : Option Addr) (n c : Nat) (L : List CC) (w : World) (hs : Crafts w w.heap.size A n L) (hm : n ≤ maxLen) :
    Calls Try.prog 32 #[.slice A n c] w fun e w' => e = .returned (.bool (areC L)) ∧ Below w.heap.size w w' := by
  have H := Lib.hid (goodC_spec A n c L w hs hm)
  clear hs
  go_enter Try.func32, Try.ntmps32
  go_wp2_with fail
  refine H.out.mono ?_
  rintro e w1 ⟨rfl, hb⟩
  have HT := Lib.hid hb
  clear hb
  go_wp2_with fail
  go_ret
  exact ⟨rfl, HT.out⟩
theorem goodC_v (A : Option Addr) (n c : Nat) (L : List CC) (v : Bool) (h : areC L = v) (w : World) (hs : Crafts w w.heap.size A n L) (hm : n ≤ maxLen) :
    Calls Try.prog 87 #[.slice A n c] w fun e w' => e = .returned (.bool v) ∧ Below w.heap.size w w' := h ▸ goodC_spec A n c L w hs hm
end Go.Proofs.Ytfffahkommbheaa
