/-
  The contract of spec.ZeroError over this translation. Conditions: stated at the theorem.
-/
import Derived.Test.YtdmnkmdlochogaaZero
namespace Go.Proofs.Ytdmnkmdlochogaa
open Go.RowKit

theorem find_k {A : Option Addr} {n c : Nat} {L : List GG} {i : Int} {k : Nat} {w : World} (hs : Gauges w w.heap.size A n L) (hm : n ≤ maxLen) (hk : plI L i = k) :
    Calls Try.prog 93 #[.slice A n c, .int .i64 i] w fun e w' => e = .returned (.int .i64 (k : Int)) ∧ w = w' := by
  rw [← hk]
  exact find_spec A n c L i w hs hm
set_option maxRecDepth 100000 in
set_option maxHeartbeats 3200000 in
theorem zero_spec (A : Option Addr) (n c : Nat) (L : List GG) (a b : Int) (w : World) (hs : Gauges w w.heap.size A n L) (hm : n ≤ maxLen) :
    Calls Try.prog 24 #[.slice A n c, .int .i64 a, .int .i64 b] w (ZePost L a b w) := by
  have HC := Lib.hid (com_spec A n c L a b w hs hm)
  have HS := Lib.hid hs
  have hlen := comR_len L a b
  clear hs
  rcases hk : twoK L a b with _ | _
  · have HR : Hid (zeK L a b = false) := by unfold Hid zeK; rw [hk]; rfl
    have HK := Lib.hid hk
    clear hk
    go_enter Try.func24, Try.ntmps24
    go_wp2_with fail
    refine HC.out.mono ?_
    rintro e w1 ⟨A1, c1, rfl, hI, hb⟩
    rw [HK.out]
    have HB := Lib.hid hb
    clear hI hb
    go_wp2_with fail
    go_ret3
    exact ze_no HR.out HB.out
  by_cases h0 : 0 < (comR L a b).length
  · have HK := Lib.hid hk
    have HR : Hid (zeK L a b = true) := by unfold Hid zeK; rw [hk, decide_eq_true h0]; rfl
    have hp := twoK_parts hk
    have HPA := Lib.hid hp.2.1
    have HPB := Lib.hid hp.2.2.1
    have hn0 : (((comR L a b).length : Int) == 0) = false := beq_eq_false_iff_ne.2 (by omega)
    obtain ⟨ts, hts⟩ : ∃ ts, ts = comR L a b := ⟨_, rfl⟩
    have HTS := Lib.hid hts
    rw [← hts] at h0 hn0 hlen
    clear hk hp hts
    go_enter Try.func24, Try.ntmps24
    go_wp2_with fail
    refine HC.out.mono ?_
    rintro e w1 ⟨A1, c1, rfl, hI, hb⟩
    rw [HK.out, ← HTS.out]
    rw [← HTS.out] at hI
    have HI := Lib.hid hI
    have HB := Lib.hid hb
    clear hI hb
    go_wp2_with fail
    go_loopw [11, 12] (fun s i wr => ∃ k : Nat, k ≤ ts.length ∧ i = .int .i64 k ∧ s = .int .i64 (sumK (gAt L a) (gAt L b) ts k) ∧ Hid (Below w1.heap.size w1 wr)) (fun _ i _ => ts.length - (intOf i).toNat)
    case atStart => exact ⟨0, Nat.zero_le _, rfl, by simp [sumK], Lib.hid (Below.refl _ _)⟩
    case round =>
      obtain ⟨k, hk, rfl, rfl, hR⟩ := hrel
      obtain ⟨W0, rfl⟩ : ∃ W : World, W = wr := ⟨_, rfl⟩
      by_cases hlt : k < ts.length
      · obtain ⟨g, rfl, _, _, ht, _⟩ := (HI.out.on hR.out (Nat.le_refl _)) k hlt
        dsimp only at ht
        have hst := sumK_step (gAt L a) (gAt L b) hlt
        obtain ⟨t, hte⟩ : ∃ t, t = ts.getD k 0 := ⟨_, rfl⟩
        rw [← hte] at ht hst
        have HST := Lib.hid hst
        have hbs := sumK_bd (gAt L a) (gAt L b) ts k hk
        have hba := hv_bd (gAt L a) t
        have hbb := hv_bd (gAt L b) t
        obtain ⟨S, hS⟩ : ∃ S, S = sumK (gAt L a) (gAt L b) ts k := ⟨_, rfl⟩
        rw [← hS] at hbs HST
        rw [← hS]
        obtain ⟨hbs1, hbs2⟩ := hbs
        obtain ⟨hba1, hba2⟩ := hba
        obtain ⟨hbb1, hbb2⟩ := hbb
        clear hst hte hS
        have HT0 := Lib.hid (bthen HB.out hR.out HB.out.size)
        have HG0 := Lib.hid (gauges_at HS.out HT0.out)
        obtain ⟨ba, oa, ka, Aa, ca, hka, hkl, hAa, hba', g0, g1, g2, g3, hsa, hla, hna⟩ := gauge_of_list HG0.out HPA.out
        have HKA := Lib.hid hka
        have HSA := Lib.hid hsa
        have HLA := Lib.hid hla
        have HNA := Lib.hid hna
        subst hAa
        clear hka hsa hla hna
        go_wp2_with fail
        have lc0 := lcell (g0)
        have lc1 := lcell (g1)
        have lc2 := lcell (g2)
        have lc3 := lcell (g3)
        have lc4 := lcell (ht)
        refine region_later (W := W0) (by kernel_rfl) (by kernel_rfl) (Below.refl _ _) ?_
        repeat (go_big_quiet_step (((first | (go_at_call 93; exact later_same (find_k (gauges_at HG0.out (Later.below _)) hm HKA.out)) | (go_at_call 92; exact later_call (htS_v (gAt L a) _ _ t _ (spots_more HSA.out (Later.below _)) HLA.out HNA.out))))))
        refine wpQuiet_nil ?_
        intro W1 hW1
        have HL : Hid (Below W0.heap.size W0 W1) := by obtain ⟨x, rfl⟩ := hW1; exact Lib.hid x.below
        clear hW1 lc0 lc1 lc2 lc3 lc4
        have HT1 := Lib.hid (bthen HT0.out HL.out HT0.out.size)
        have HR1 := Lib.hid (bthen hR.out HL.out hR.out.size)
        have HG1 := Lib.hid (gauges_at HS.out HT1.out)
        have ht1 := cell_next HL.out ht
        clear g0 g1 g2 g3 ht HL
        obtain ⟨bb, ob, kb, Ab, cb, hkb, hklb, hAb, hbb', g0, g1, g2, g3, hsb, hlb, hnb⟩ := gauge_of_list HG1.out HPB.out
        obtain ⟨rfl, rfl⟩ : ba = bb ∧ oa = ob := by injection hAb with h; injection h with h h'; exact ⟨h, h'⟩
        have HKB := Lib.hid hkb
        have HSB := Lib.hid hsb
        have HLB := Lib.hid hlb
        have HNB := Lib.hid hnb
        clear hAb hkb hsb hlb hnb
        go_wp2_with fail
        have lc0 := lcell (g0)
        have lc1 := lcell (g1)
        have lc2 := lcell (g2)
        have lc3 := lcell (g3)
        have lc4 := lcell (ht1)
        refine region_later (W := W1) (by kernel_rfl) (by kernel_rfl) (Below.refl _ _) ?_
        repeat (go_big_quiet_step (((first | (go_at_call 93; exact later_same (find_k (gauges_at HG1.out (Later.below _)) hm HKB.out)) | (go_at_call 92; exact later_call (htS_v (gAt L b) _ _ t _ (spots_more HSB.out (Later.below _)) HLB.out HNB.out))))))
        refine wpQuiet_nil ?_
        intro W2 hW1
        have HL : Hid (Below W1.heap.size W1 W2) := by obtain ⟨x, rfl⟩ := hW1; exact Lib.hid x.below
        clear hW1 lc0 lc1 lc2 lc3 lc4
        have HR2 := Lib.hid (bthen HR1.out HL.out HR1.out.size)
        clear g0 g1 g2 g3 ht1 HL
        go_wp2_with fail
        go_roundw
        case rel => exact ⟨k + 1, by omega, by go_num, congrArg (Value.int .i64) (by rw [HST.out]; omega), HR2⟩
        case measure => simp [intOf]; omega
      · obtain rfl : k = ts.length := by omega
        have hbs := sumK_bd (gAt L a) (gAt L b) ts ts.length (Nat.le_refl _)
        have HF : Hid (∀ W, Below w.heap.size w W → ZePost L a b w (.returned (.tuple #[.int .i64 ((sumK (gAt L a) (gAt L b) ts ts.length).tdiv (gd (sumK (gAt L a) (gAt L b) ts ts.length) ts.length : Nat)), .int .i64 ((ts.length : Int) / (gd (sumK (gAt L a) (gAt L b) ts ts.length) ts.length : Nat)), .bool true])) W) := Lib.hid fun W hW => by
          rw [HTS.out]
          exact ze_yes HR.out hW
        go_wp2_with fail
        refine (reduce_spec _ _ _ (by omega) (by omega) h0 (by omega)).mono ?_
        rintro e w5 ⟨rfl, hb⟩
        have HT := Lib.hid (bthen HB.out (bthen hR.out hb hR.out.size) HB.out.size)
        clear hb hbs
        go_wp2_with fail
        go_ret3
        exact HF.out _ HT.out
  · have HR : Hid (zeK L a b = false) := by unfold Hid zeK; rw [decide_eq_false h0, Bool.and_false]
    have HK := Lib.hid hk
    have hz : (comR L a b).length ≤ 0 := by omega
    have hn0 : (((comR L a b).length : Int) == 0) = true := by simpa using hz
    clear hk h0 hz hlen
    go_enter Try.func24, Try.ntmps24
    go_wp2_with fail
    refine HC.out.mono ?_
    rintro e w1 ⟨A1, c1, rfl, hI, hb⟩
    rw [HK.out]
    have HB := Lib.hid hb
    clear hI hb
    go_wp2_with fail
    go_ret3
    exact ze_no HR.out HB.out
end Go.Proofs.Ytdmnkmdlochogaa
