/-
  The contract of spec.GapsOf over this translation. Conditions: stated at the theorem.
-/
import Derived.Test.YtlggcfeclbcfaaaGaps
import Derived.Test.YtlggcfeclbcfaaaMid2
namespace Go.Proofs.Ytlggcfeclbcfaaa
open Go.RowKit

set_option maxRecDepth 20000 in
set_option maxHeartbeats 3200000 in
theorem gaps_spec (id ze : Int) (nm : ByteArray) (A : Option Addr) (n c : Nat) (l : List (Int × Int)) (m : Int) (w : World) (hs : Spots w w.heap.size A n l) (hm : n ≤ maxLen) (hn : nm.size ≤ maxLen) :
    Calls Try.prog 17 #[.agg #[.int .i64 id, .string nm, .int .i64 ze, .slice A n c], .int .i64 m] w (GpPost id ze nm l m w) := by
  obtain rfl := hs.1
  obtain ⟨i0, hi, hz0, hz1, hz2⟩ := info_parts infoInts
  have HI := Lib.hid (And.intro hi (And.intro hz0 (And.intro hz1 hz2)))
  clear hi hz0 hz1 hz2
  have HX := Lib.hid (box1 (cs := #[.int .i64 id, .string nm, .int .i64 ze, .slice A l.length c]) (T := 26) (Below.refl _ _) (w := w))
  have HS := Lib.hid (spots_alloc hs (.cells #[.int .i64 id, .string nm, .int .i64 ze, .slice A l.length c] 26))
  have HSw := Lib.hid hs
  have HS0 := Lib.hid (spots_alloc HS.out (.cells #[] 44))
  have HA0 : Hid (Gp w [.int .i64 id, .string nm, .int .i64 ze, .slice A l.length c] (.slice (some ⟨w.heap.size + 1, 0, none⟩) 0 0) [] ((w.alloc (.cells #[.int .i64 id, .string nm, .int .i64 ze, .slice A l.length c] 26)).alloc (.cells #[] 44))) := by
    have h := gp_start HX.out.1 HX.out.2
    rw [World.size_alloc] at h
    exact h
  clear hs
  rcases hg : gaugeB id nm ze l with _ | _
  · have HG := Lib.hid hg
    have HK : Hid (gpK id ze nm l m = false) := by unfold Hid gpK; rw [hg]; rfl
    clear hg
    go_enter Try.func17, Try.ntmps17
    go_wp2_with fail
    refine (one_v _ _ _ _ _ _ l _ HG.out _ HS0.out hm hn).mono ?_
    rintro e w1 ⟨rfl, hb⟩
    have HN := Lib.hid (HA0.out.next hb)
    clear hb
    go_wp2_with fail
    go_ret2
    exact gp_no HK.out HN.out
  rcases hmi : inB m 1 10000 with _ | _
  · have HG := Lib.hid hg
    have HM := Lib.hid hmi
    have HK : Hid (gpK id ze nm l m = false) := by unfold Hid gpK; rw [hg, hmi]; rfl
    clear hg hmi
    go_enter Try.func17, Try.ntmps17
    go_wp2_with fail
    refine (one_v _ _ _ _ _ _ l _ HG.out _ HS0.out hm hn).mono ?_
    rintro e w1 ⟨rfl, hb⟩
    have HN := Lib.hid (HA0.out.next hb)
    clear hb
    go_wp2_with fail
    refine (l1In_v _ _ _ _ HM.out _).mono ?_
    rintro e w' ⟨rfl, rfl⟩
    go_wp2_with fail
    go_ret2
    exact gp_no HK.out HN.out
  have HG := Lib.hid hg
  have HM := Lib.hid hmi
  have HK : Hid (gpK id ze nm l m = true) := by unfold Hid gpK; rw [hg, hmi]; rfl
  have HGG := Lib.hid (good_of_gauge hg).2.2.2.2
  have h15 := (good_of_gauge hg).2.2.2.1
  have hmb := inB_yes hmi
  obtain ⟨hmb1, hmb2⟩ := hmb
  clear hg hmi
  go_enter Try.func17, Try.ntmps17
  go_wp2_with fail
  refine (one_v _ _ _ _ _ _ l _ HG.out _ HS0.out hm hn).mono ?_
  rintro e w1 ⟨rfl, hb⟩
  have HN := Lib.hid (HA0.out.next hb)
  clear hb
  go_wp2_with fail
  refine (l1In_v _ _ _ _ HM.out _).mono ?_
  rintro e w' ⟨rfl, rfl⟩
  go_wp2_with fail
  go_loopw [6, 7] (fun s i wr => ∃ (k : Nat) (v : Value), 1 ≤ k ∧ (k ≤ l.length ∨ k ≤ 1) ∧ i = .int .i64 k ∧ s = v ∧ Hid (Gp w [.int .i64 id, .string nm, .int .i64 ze, .slice A l.length c] v (gpL l m k) wr)) (fun _ i _ => l.length - (intOf i).toNat)
  case atStart => exact ⟨1, _, Nat.le_refl _, .inr (Nat.le_refl _), rfl, rfl, (by rw [gpL_one]; exact HN)⟩
  case round =>
    obtain ⟨k, v, hk1, hk2, rfl, rfl, hR⟩ := hrel
    obtain ⟨W0, rfl⟩ : ∃ W : World, W = wr := ⟨_, rfl⟩
    obtain ⟨G, hA, hIn⟩ := hR.out
    have HA := Lib.hid hA
    have HIn := Lib.hid hIn
    clear hA hIn
    have g3 := HA.out.2.2.at_ 3 _ rfl
    by_cases hlt : k < l.length
    · obtain ⟨b0, o0, x, y, rfl, hb0, hl0, c0, c1⟩ := (spots_more HSw.out HA.out.2.1).2 k hlt
      obtain ⟨b1, o1, x1, y1, hA1, hb1, hl1, d0, d1⟩ := (spots_more HSw.out HA.out.2.1).2 (k - 1) (by omega)
      obtain ⟨rfl, rfl⟩ : b0 = b1 ∧ o0 = o1 := by injection hA1 with h; injection h with h h'; exact ⟨h, h'⟩
      have HQ : Hid (gpB l m k = decide (m < x - x1) ∧ tmAt l k = x ∧ tmAt l (k - 1) = x1) := Lib.hid ⟨by unfold gpB; rw [tm_of hl0, tm_of hl1]; simp [hk1], tm_of hl0, tm_of hl1⟩
      have hx := (read_at HGG.out hlt).1
      have hx1 := (read_at HGG.out (show k - 1 < l.length by omega)).1
      rw [HQ.out.2.1] at hx
      rw [HQ.out.2.2] at hx1
      obtain ⟨hx0, hx9⟩ := hx
      obtain ⟨hx10, hx19⟩ := hx1
      have hlen := gpL_len l m k
      clear hl0 hl1 hA1 c1 d1
      obtain ⟨j, hj⟩ : ∃ j, k = j + 1 := ⟨k - 1, by omega⟩
      subst hj
      rw [Nat.add_sub_cancel] at d0
      rcases hq : gpB l m (j + 1) with _ | _
      · have HV : Hid (gpL l m (j + 1 + 1) = gpL l m (j + 1)) := by unfold Hid; rw [gpL_succ, hq]; simp
        have hq' : ¬ m < x - x1 := by have := HQ.out.1; rw [hq] at this; exact of_decide_eq_false this.symm
        have hd : decide (m < x - x1) = false := decide_eq_false hq'
        clear hq hq'
        go_wp2_with fail
        have lc0 := lcell (g3)
        have lc1 := lcell (c0)
        have lc2 := lcell (d0)
        refine region_later (W := W0) (by kernel_rfl) (by kernel_rfl) (Below.refl _ _) ?_
        repeat (go_big_quiet_step (fail))
        refine wpQuiet_nil ?_
        intro W3 hW1
        have HL : Hid (Below W0.heap.size W0 W3) := by obtain ⟨x, rfl⟩ := hW1; exact Lib.hid x.below
        clear hW1 lc0 lc1 lc2
        have hn3 := hR.out.next HL.out
        rw [← HV.out] at hn3
        have HN3 := Lib.hid hn3
        clear hn3 g3 c0 d0
        go_wp2_with fail
        go_roundw
        case rel => exact ⟨j + 1 + 1, _, by omega, .inl (by omega), by go_num, rfl, HN3⟩
        case measure => simp [intOf]; omega
      · have HV : Hid (gpL l m (j + 1 + 1) = gpL l m (j + 1) ++ [(x1, x)]) := by unfold Hid; rw [gpL_succ, hq, if_pos rfl, HQ.out.2.1, HQ.out.2.2]
        have hq' : m < x - x1 := by have := HQ.out.1; rw [hq] at this; exact of_decide_eq_true this.symm
        have hd : decide (m < x - x1) = true := decide_eq_true hq'
        clear hq hq'
        go_wp2_with fail
        have lc0 := lcell (g3)
        have lc1 := lcell (c0)
        have lc2 := lcell (d0)
        refine region_later (W := W0) (by kernel_rfl) (by kernel_rfl) (Below.refl _ _) ?_
        repeat (go_big_quiet_step (fail))
        refine wpQuiet_nil ?_
        intro W1 hW1
        have HL : Hid (Below W0.heap.size W0 W1) := by obtain ⟨x, rfl⟩ := hW1; exact Lib.hid x.below
        clear hW1 lc0 lc1 lc2
        have HB1 := Lib.hid HL.out
        have g3' := cell_next HL.out g3
        have c0' := cell_next HL.out c0
        have d0' := cell_next HL.out d0
        clear g3 c0 d0 HL
        obtain ⟨Rv, cv, rfl⟩ := own_slice HA.out.1
        go_wp2_with fail
        have lc0 := lcell g3'
        have lc1 := lcell c0'
        have lc2 := lcell d0'
        refine region_mid2 (W := W1) 14 (by kernel_rfl) (by kernel_rfl) (Below.refl _ _) (fun d _ _ _ _ h => by cases d <;> exact h) ?_
        simp only [List.take_succ_cons, List.take_zero, List.drop_succ_cons, List.drop_zero]
        repeat (go_big_quiet_step (fail))
        refine wpQuiet_nil ?_
        intro W3 hW1
        have HL : Hid (Below W1.heap.size W1 W3) := by obtain ⟨x, rfl⟩ := hW1; exact Lib.hid x.below
        clear hW1 lc0 lc1 lc2
        refine wpOp_step rfl (fun K hK => ?_)
        rw [if_pos (by rfl)]
        go_simp
        refine hK _ _ ⟨⟨⟨_, HL.out.alloc HL.out.size _⟩, rfl⟩, ?_⟩
        clear hK K
        refine wpOp_step rfl (fun K hK => ?_)
        rw [if_pos (by rfl)]
        go_simp
        refine hK _ _ ⟨⟨⟨_, (HL.out.alloc HL.out.size _).alloc (by rw [World.size_alloc]; exact Nat.le_succ_of_le HL.out.size) _⟩, rfl⟩, ?_⟩
        clear hK K
        have HB3 := Lib.hid (bthen HB1.out HL.out HB1.out.size)
        have HA3 := Lib.hid (HA.out.next HB3.out)
        have HIn3 : Hid (In W3 w.heap.size G (gpL l m (j + 1))) := Lib.hid ⟨HIn.out.1, HIn.out.2.1, fun k g p hg hp => ⟨(HIn.out.2.2 k g p hg hp).1, (HIn.out.2.2 k g p hg hp).2.next HB3.out⟩⟩
        clear g3' c0' d0'
        refine wpList_append_own _ rfl _ _ 40 rfl (w.heap.size + 1) 44 i0 (.slice none 0 0) 1 24 Try.underlying40 HI.out.1 HI.out.2.1 HI.out.2.2.1 HI.out.2.2.2 rfl (by decide) _ _ _ rfl ((HA3.out.1.alloc _).alloc _) ⟨W3.heap.size + 1, 0, none⟩ 1 1 [.slice (some ⟨W3.heap.size, 0, none⟩) 2 2] rfl rfl (by have h := cell_one_new (W3.alloc (.cells #[.int .i64 x1, .int .i64 x] 3)) (.slice (some ⟨W3.heap.size, 0, none⟩) 2 2) 44; rw [World.size_alloc] at h; exact h) (by simp [Value.oneCell']) (by unfold maxLen; omega) (by omega) (by have := HA3.out.2.1.size; have := HA3.out.2.2.1; simp; omega) ?_
        intro v' w5 hown' hgrow _
        have HN := Lib.hid (Gp.step HA3.out HIn3.out hown' (by simp) hgrow)
        obtain ⟨R', cap', rfl⟩ := own_slice hown'
        clear hown' hgrow
        go_wp2_with fail
        have hn3 := HN.out
        rw [← HV.out] at hn3
        have HN3 := Lib.hid hn3
        clear hn3
        go_roundw
        case rel => exact ⟨j + 1 + 1, _, by omega, .inl (by omega), by go_num, rfl, HN3⟩
        case measure => simp [intOf]; omega
    · have hkl : gpL l m k = gpL l m l.length := by
        rcases hk2 with h | h
        · have : k = l.length := by omega
          rw [this]
        · have e : k = 1 := by omega
          subst e
          rw [gpL_one]
          have h2 : l.length = 0 ∨ l.length = 1 := by omega
          rcases h2 with h2 | h2
          · rw [h2, gpL_zero]
          · rw [h2, gpL_one]
      have hP := gp_yes HK.out (hkl ▸ hR.out)
      have HP := Lib.hid hP
      clear hP hkl
      go_wp2_with fail
      go_ret2
      exact HP.out
end Go.Proofs.Ytlggcfeclbcfaaa
