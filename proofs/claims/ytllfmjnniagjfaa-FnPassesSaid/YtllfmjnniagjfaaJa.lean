/-
  Passes, the program: contracts of impl.MinutesOn, BusyShare, pingsOn, isSailed, GoodShare over this translation. Conditions: stated at each theorem.
-/
import Derived.Test.YtllfmjnniagjfaaJs
namespace Go.Proofs.Ytllfmjnniagjfaa
open Go.RowKit
set_option linter.unusedVariables false

set_option maxRecDepth 20000 in
set_option maxHeartbeats 3200000 in
theorem minutes_impl (A : Option Addr) (n c : Nat) (L : List PS) (l : Int) (w : World) (hs : SdsJ w w.heap.size A n L) (hm : n ≤ maxLen) :
    Calls Try.prog 29 #[.slice A n c, .int .i64 l] w (Num2J (mtR L l) (mtK L l) w) := by
  obtain rfl := hs.1
  have HS := Lib.hid hs
  clear hs
  rcases h1 : pssB L with _ | _
  · have H1 := Lib.hid h1
    clear h1
    go_enter Try.func29, Try.ntmps29
    go_wp2_with fail
    refine (pss_impl_v _ _ _ L _ H1.out _ HS.out hm).mono ?_
    rintro e w1 ⟨rfl, hb⟩
    have HB1 := Lib.hid hb
    clear hb
    go_wp2_with fail
    go_ret2
    exact num2J_no (mt_no (mt_1 H1.out)) HB1.out
  have H1 := Lib.hid h1
  rcases h2 : inB l 1 999 with _ | _
  · have H2 := Lib.hid h2
    clear h1 h2
    go_enter Try.func29, Try.ntmps29
    go_wp2_with fail
    refine (pss_impl_v _ _ _ L _ H1.out _ HS.out hm).mono ?_
    rintro e w1 ⟨rfl, hb⟩
    have HB1 := Lib.hid hb
    clear hb
    go_wp2_with fail
    refine (logJ_impl _ _ H2.out _).mono ?_
    rintro e w' ⟨rfl, rfl⟩
    go_wp2_with fail
    go_ret2
    exact num2J_no (mt_no (mt_2 H2.out)) HB1.out
  have H2 := Lib.hid h2
  have HG := Lib.hid (good11_of h1)
  have h12 := (good11_of h1).max
  have HP := Lib.hid (mt_yes (mt_3 h1 h2))
  clear h1 h2
  go_enter Try.func29, Try.ntmps29
  go_wp2_with fail
  refine (pss_impl_v _ _ _ L _ H1.out _ HS.out hm).mono ?_
  rintro e w1 ⟨rfl, hb⟩
  have HB1 := Lib.hid hb
  clear hb
  go_wp2_with fail
  refine (logJ_impl _ _ H2.out _).mono ?_
  rintro e w' ⟨rfl, rfl⟩
  go_wp2_with fail
  go_loopw [6, 19] (fun q i wr => ∃ (k : Nat) (s : Int), k ≤ L.length ∧ i = .int .i64 k ∧ q = .int .i64 s ∧ Hid (s = mnS L l k) ∧ (0 ≤ s ∧ s ≤ 10000) ∧ Hid (Below w.heap.size w wr)) (fun _ i _ => L.length - (intOf i).toNat)
  case atStart => exact ⟨0, 0, Nat.zero_le _, rfl, rfl, Lib.hid rfl, by omega, HB1⟩
  case round =>
    obtain ⟨k, s, hk, rfl, rfl, hM, ⟨hs1, hs2⟩, hB⟩ := hrel
    by_cases hlt : k < L.length
    · obtain ⟨b, o, v, rfl, hbl, hL, c0, c1, c2, c3, c4, c5⟩ := (sds_atJ HS.out hB.out).2 k hlt
      have hat := psAt_at hL
      have hg := HG.out.one k hlt
      rw [hat] at hg
      have g1 := hg.b0
      have g2 := hg.be
      have g3 := hg.e1
      have htop := mnS_top HG.out l (k := k + 1) (by omega)
      have HB2 := Lib.hid (hB.out.alloc hB.out.size (.cells #[.int .i64 v.ln, .int .i64 v.bg, .int .i64 v.en, .int .i64 v.pi, .int .i64 v.bd, .int .i64 v.co] 40))
      by_cases he : v.ln = l
      · have hd1 : (v.ln == l) = true := beq_iff_eq.2 he
        have hn : s + (v.en - v.bg) = mnS L l (k + 1) := by rw [mnS, hat, if_pos he, ← hM.out]; omega
        rw [← hn] at htop
        have HN := Lib.hid hn
        clear hL hat he hg hn
        go_wp2_with fail
        go_roundw
        case rel => exact ⟨k + 1, s + (v.en - v.bg), by omega, by go_num, by first | rfl | go_num, HN, htop, HB2⟩
        case measure => simp [intOf]; omega
      · have hd1 : (v.ln == l) = false := beq_eq_false_iff_ne.2 he
        have HN : Hid (s = mnS L l (k + 1)) := by unfold Hid; rw [mnS, hat, if_neg he, ← hM.out]
        clear hL hat he hg
        go_wp2_with fail
        go_roundw
        case rel => exact ⟨k + 1, s, by omega, by go_num, by first | rfl | go_num, HN, ⟨hs1, hs2⟩, HB2⟩
        case measure => simp [intOf]; omega
    · obtain rfl : k = L.length := by omega
      go_wp2_with fail
      go_ret2
      exact num2J_is (by rw [hM.out]; exact HP.out) hB.out
theorem bs_per {L : List PS} {f t : Int} (h : perB f t = false) : bsK L f t = false := by unfold bsK; rw [Bool.and_assoc, ← per_bs, h, Bool.and_false]
theorem bs_per2 {L : List PS} {f t : Int} (h1 : pssB L = true) (h : perB f t = true) : bsK L f t = true := by unfold bsK; rw [Bool.and_assoc, ← per_bs, h, h1]; rfl
set_option maxRecDepth 20000 in
set_option maxHeartbeats 3200000 in
theorem busy_impl (A : Option Addr) (n c : Nat) (L : List PS) (f t : Int) (w : World) (hs : SdsJ w w.heap.size A n L) (hm : n ≤ maxLen) :
    Calls Try.prog 26 #[.slice A n c, .int .i64 f, .int .i64 t] w (Num3J (bsN L f t) (bsD L f t) (bsK L f t) w) := by
  obtain rfl := hs.1
  have HS := Lib.hid hs
  clear hs
  rcases h1 : pssB L with _ | _
  · have H1 := Lib.hid h1
    clear h1
    go_enter Try.func26, Try.ntmps26
    go_wp2_with fail
    refine (pss_impl_v _ _ _ L _ H1.out _ HS.out hm).mono ?_
    rintro e w1 ⟨rfl, hb⟩
    have HB1 := Lib.hid hb
    clear hb
    go_wp2_with fail
    go_ret3
    exact num3J_no (bs_no (bs_1 H1.out)) HB1.out
  have H1 := Lib.hid h1
  rcases h2 : perB f t with _ | _
  · have H2 := Lib.hid h2
    clear h1 h2
    go_enter Try.func26, Try.ntmps26
    go_wp2_with fail
    refine (pss_impl_v _ _ _ L _ H1.out _ HS.out hm).mono ?_
    rintro e w1 ⟨rfl, hb⟩
    have HB1 := Lib.hid hb
    clear hb
    go_wp2_with fail
    refine (period_impl _ _ _ H2.out _).mono ?_
    rintro e w' ⟨rfl, rfl⟩
    go_wp2_with fail
    go_ret3
    exact num3J_no (bs_no (bs_per H2.out)) HB1.out
  have H2 := Lib.hid h2
  have HG := Lib.hid (good11_of h1)
  have h12 := (good11_of h1).max
  obtain ⟨f1, ft, t2⟩ := per_is h2
  have HP := Lib.hid (bs_yes (bs_per2 h1 h2))
  obtain ⟨d, hd⟩ : ∃ d : Nat, t - f = d := ⟨(t - f).toNat, by omega⟩
  have hdn : (t - f).toNat = d := by omega
  rw [hdn] at HP
  clear h1 h2 hdn
  go_enter Try.func26, Try.ntmps26
  go_wp2_with fail
  refine (pss_impl_v _ _ _ L _ H1.out _ HS.out hm).mono ?_
  rintro e w1 ⟨rfl, hb⟩
  have HB1 := Lib.hid hb
  clear hb
  go_wp2_with fail
  refine (period_impl _ _ _ H2.out _).mono ?_
  rintro e w' ⟨rfl, rfl⟩
  go_wp2_with fail
  go_loopw [9, 25] (fun q i wr => ∃ (k : Nat) (s : Int), k ≤ L.length ∧ i = .int .i64 k ∧ q = .int .i64 s ∧ Hid (s = bzS L f t k) ∧ (0 ≤ s ∧ s ≤ 10000) ∧ Hid (Below w.heap.size w wr)) (fun _ i _ => L.length - (intOf i).toNat)
  case atStart => exact ⟨0, 0, Nat.zero_le _, rfl, rfl, Lib.hid rfl, by omega, HB1⟩
  case round =>
    obtain ⟨k, s, hk, rfl, rfl, hM, ⟨hs1, hs2⟩, hB⟩ := hrel
    by_cases hlt : k < L.length
    · obtain ⟨b, o, v, rfl, hbl, hL, c0, c1, c2, c3, c4, c5⟩ := (sds_atJ HS.out hB.out).2 k hlt
      have hat := psAt_at hL
      have hg := HG.out.one k hlt
      rw [hat] at hg
      have g1 := hg.b0
      have g2 := hg.be
      have g3 := hg.e1
      have htop := bz_le HG.out f1 ft (k := k + 1) (by omega)
      have hn : s + max 0 (min v.en t - max v.bg f) = bzS L f t (k + 1) := by rw [bzS, hat, ← hM.out]; unfold bzI; omega
      rw [← hn] at htop
      have HN := Lib.hid hn
      have HB2 := Lib.hid (hB.out.alloc hB.out.size (.cells #[.int .i64 v.ln, .int .i64 v.bg, .int .i64 v.en, .int .i64 v.pi, .int .i64 v.bd, .int .i64 v.co] 40))
      clear hL hat hg hn
      go_wp2_with fail
      go_roundw
      case rel => exact ⟨k + 1, s + max 0 (min v.en t - max v.bg f), by omega, by go_num, by first | rfl | go_num, HN, by omega, HB2⟩
      case measure => simp [intOf]; omega
    · obtain rfl : k = L.length := by omega
      go_wp2_with fail
      refine (lowest_impl s d _ (by omega) (by omega) (by omega) (by omega)).mono ?_
      rintro e w3 ⟨rfl, hb⟩
      have HB3 := Lib.hid (bthen hB.out hb hB.out.size)
      have HQ : Hid (bsN L f t = s.tdiv (gd s d : Nat) ∧ bsD L f t = (d : Int) / (gd s d : Nat) ∧ bsK L f t = true) := by rw [hM.out]; exact HP
      clear hb
      go_wp2_with fail
      go_ret3
      exact num3J_is HQ.out HB3.out
/-! ### Pings -/
set_option maxRecDepth 20000 in
set_option maxHeartbeats 3200000 in
theorem pings_impl (A : Option Addr) (n c : Nat) (L : List PS) (l : Int) (S T : Int) (hS : gpS L l L.length = S) (hT : apS L l L.length = T) (hg : Good11 L) (w : World) (hs : SdsJ w w.heap.size A n L) (hm : n ≤ maxLen) :
    Calls Try.prog 73 #[.slice A n c, .int .i64 l] w fun e w' => e = .returned (.tuple #[.int .i64 S, .int .i64 T]) ∧ Below w.heap.size w w' := by
  obtain rfl := hs.1
  have HS := Lib.hid hs
  have HG := Lib.hid hg
  have HST := Lib.hid (And.intro hS hT)
  have h12 := hg.max
  clear hS hT hg
  clear hs
  unfold maxLen at hm
  go_enter Try.func73, Try.ntmps73
  go_wp2_with fail
  go_loopw [6, 7, 12] (fun q r i wr => ∃ (k : Nat) (s t : Int), k ≤ L.length ∧ i = .int .i64 k ∧ q = .int .i64 s ∧ r = .int .i64 t ∧ Hid (s = gpS L l k ∧ t = apS L l k) ∧ (0 ≤ s ∧ s ≤ t ∧ t ≤ 100000 * (k : Int)) ∧ Hid (Below w.heap.size w wr)) (fun _ _ i _ => L.length - (intOf i).toNat)
  case atStart => exact ⟨0, 0, 0, Nat.zero_le _, rfl, rfl, rfl, Lib.hid ⟨rfl, rfl⟩, by omega, Lib.hid (Below.refl _ _)⟩
  case round =>
    obtain ⟨k, s, t, hk, rfl, rfl, rfl, hM, ⟨hs1, hs2, hs3⟩, hB⟩ := hrel
    by_cases hlt : k < L.length
    · obtain ⟨b, o, v, rfl, hbl, hL, c0, c1, c2, c3, c4, c5⟩ := (sds_atJ HS.out hB.out).2 k hlt
      have hat := psAt_at hL
      have hg := HG.out.one k hlt
      rw [hat] at hg
      have g1 := hg.p0
      have g2 := hg.p1
      have g3 := hg.d0
      have g4 := hg.d1
      have HB2 := Lib.hid (hB.out.alloc hB.out.size (.cells #[.int .i64 v.ln, .int .i64 v.bg, .int .i64 v.en, .int .i64 v.pi, .int .i64 v.bd, .int .i64 v.co] 40))
      clear hg
      by_cases he : v.ln = l
      · have hd1 : (v.ln == l) = true := beq_iff_eq.2 he
        have HN : Hid (s + (v.pi - v.bd) = gpS L l (k + 1) ∧ t + v.pi = apS L l (k + 1)) := by
          unfold Hid
          rw [gpS, apS, hat, if_pos he, if_pos he, ← hM.out.1, ← hM.out.2]
          exact ⟨by omega, rfl⟩
        clear hL hat he
        go_wp2_with fail
        go_roundw
        case rel => exact ⟨k + 1, s + (v.pi - v.bd), t + v.pi, by omega, by go_num, by first | rfl | go_num, by first | rfl | go_num, HN, by omega, HB2⟩
        case measure => simp [intOf]; omega
      · have hd1 : (v.ln == l) = false := beq_eq_false_iff_ne.2 he
        have HN : Hid (s = gpS L l (k + 1) ∧ t = apS L l (k + 1)) := by unfold Hid; rw [gpS, apS, hat, if_neg he, if_neg he, ← hM.out.1, ← hM.out.2]; exact ⟨rfl, rfl⟩
        clear hL hat he
        go_wp2_with fail
        go_roundw
        case rel => exact ⟨k + 1, s, t, by omega, by go_num, rfl, rfl, HN, by omega, HB2⟩
        case measure => simp [intOf]; omega
    · obtain rfl : k = L.length := by omega
      have HR : Hid (s = S ∧ t = T) := by unfold Hid; rw [hM.out.1, hM.out.2, HST.out.1, HST.out.2]; exact ⟨rfl, rfl⟩
      go_wp2_with fail
      go_ret2
      exact ⟨tup2J HR.out.1 HR.out.2, hB.out⟩
set_option maxRecDepth 20000 in
set_option maxHeartbeats 1600000 in
theorem sail_impl (A : Option Addr) (n c : Nat) (L : List PS) (l : Int) (r : Bool) (hr : sailB L l = r) (w : World) (hs : SdsJ w w.heap.size A n L) (hm : n ≤ maxLen) (hg : Good11 L) :
    Calls Try.prog 64 #[.slice A n c, .int .i64 l] w fun e w' => e = .returned (.bool r) ∧ Below w.heap.size w w' := by
  obtain rfl := hs.1
  have HS := Lib.hid hs
  have HG := Lib.hid hg
  have h12 := hg.max
  obtain ⟨s1, s2, s3⟩ := pings_bd hg l (Nat.le_refl L.length)
  unfold sailB at hr
  obtain ⟨S, hS⟩ : ∃ s, gpS L l L.length = s := ⟨_, rfl⟩
  obtain ⟨T, hT⟩ : ∃ t, apS L l L.length = t := ⟨_, rfl⟩
  rw [hS] at s1 s2
  rw [hT] at s2 s3
  rw [hS, hT] at hr
  have HST := Lib.hid (And.intro hS hT)
  clear hS hT hs hg
  by_cases h0 : 0 < T
  · have hd1 : decide (T > 0) = true := decide_eq_true h0
    rw [show decide (0 < T) = true from decide_eq_true h0, Bool.true_and] at hr
    have HR : Hid (decide (100 * S ≥ 90 * T) = r) := by
      unfold Hid
      rw [← hr]
      exact decide_eq_decide.2 (by omega)
    clear hr
    go_enter Try.func64, Try.ntmps64
    go_wp2_with fail
    refine (pings_impl _ _ _ L l S T HST.out.1 HST.out.2 HG.out _ HS.out hm).mono ?_
    rintro e w1 ⟨rfl, hb⟩
    have HB := Lib.hid hb
    clear hb
    go_wp2_with fail
    go_ret
    exact ⟨ret_bool (by first | exact HR.out | simp [HR.out]), HB.out⟩
  · have hd1 : decide (T > 0) = false := decide_eq_false h0
    rw [show decide (0 < T) = false from decide_eq_false h0, Bool.false_and] at hr
    subst hr
    go_enter Try.func64, Try.ntmps64
    go_wp2_with fail
    refine (pings_impl _ _ _ L l S T HST.out.1 HST.out.2 HG.out _ HS.out hm).mono ?_
    rintro e w1 ⟨rfl, hb⟩
    have HB := Lib.hid hb
    clear hb
    go_wp2_with fail
    go_ret
    exact ⟨ret_bool (by first | rfl | simp), HB.out⟩
/-! ### GoodShare -/
set_option maxRecDepth 20000 in
set_option maxHeartbeats 3200000 in
theorem share_impl (A : Option Addr) (n c : Nat) (L : List PS) (l : Int) (w : World) (hs : SdsJ w w.heap.size A n L) (hm : n ≤ maxLen) :
    Calls Try.prog 24 #[.slice A n c, .int .i64 l] w (Num3J (gsN L l) (gsD L l) (gsK L l) w) := by
  obtain rfl := hs.1
  have HS := Lib.hid hs
  clear hs
  rcases h1 : pssB L with _ | _
  · have H1 := Lib.hid h1
    clear h1
    go_enter Try.func24, Try.ntmps24
    go_wp2_with fail
    refine (pss_impl_v _ _ _ L _ H1.out _ HS.out hm).mono ?_
    rintro e w1 ⟨rfl, hb⟩
    have HB1 := Lib.hid hb
    clear hb
    go_wp2_with fail
    go_ret3
    exact num3J_no (gs_no (gs_1 H1.out)) HB1.out
  have H1 := Lib.hid h1
  rcases h2 : inB l 1 999 with _ | _
  · have H2 := Lib.hid h2
    clear h1 h2
    go_enter Try.func24, Try.ntmps24
    go_wp2_with fail
    refine (pss_impl_v _ _ _ L _ H1.out _ HS.out hm).mono ?_
    rintro e w1 ⟨rfl, hb⟩
    have HB1 := Lib.hid hb
    clear hb
    go_wp2_with fail
    refine (logJ_impl _ _ H2.out _).mono ?_
    rintro e w' ⟨rfl, rfl⟩
    go_wp2_with fail
    go_ret3
    exact num3J_no (gs_no (gs_2 H2.out)) HB1.out
  have H2 := Lib.hid h2
  have HG := Lib.hid (good11_of h1)
  have h12 := (good11_of h1).max
  obtain ⟨s1, s2, s3⟩ := pings_bd HG.out l (Nat.le_refl L.length)
  obtain ⟨s, hS⟩ : ∃ s, gpS L l L.length = s := ⟨_, rfl⟩
  obtain ⟨t, hT⟩ : ∃ t, apS L l L.length = t := ⟨_, rfl⟩
  rw [hS] at s1 s2
  rw [hT] at s2 s3
  have HST := Lib.hid (And.intro hS hT)
  by_cases h0 : t = 0
  · subst h0
    have HP := Lib.hid (gs_3 (L := L) (l := l) (by omega))
    clear h1 h2 hS hT
    go_enter Try.func24, Try.ntmps24
    go_wp2_with fail
    refine (pss_impl_v _ _ _ L _ H1.out _ HS.out hm).mono ?_
    rintro e w1 ⟨rfl, hb⟩
    have HB1 := Lib.hid hb
    clear hb
    go_wp2_with fail
    refine (logJ_impl _ _ H2.out _).mono ?_
    rintro e w' ⟨rfl, rfl⟩
    go_wp2_with fail
    refine (pings_impl _ _ _ L l _ _ HST.out.1 HST.out.2 HG.out _ (sds_atJ HS.out HB1.out) hm).mono ?_
    rintro e w2 ⟨rfl, hb⟩
    have HB2 := Lib.hid (bthen HB1.out hb HB1.out.size)
    clear hb
    go_wp2_with fail
    go_ret3
    exact num3J_no (gs_no HP.out) HB2.out
  have hd0 : (t == 0) = false := beq_eq_false_iff_ne.2 h0
  obtain ⟨d, rfl⟩ : ∃ d : Nat, t = d := ⟨t.toNat, by omega⟩
  have HP : Hid (gsN L l = s.tdiv (gd s d : Nat) ∧ gsD L l = (d : Int) / (gd s d : Nat) ∧ gsK L l = true) := by
    have h := gs_yes (gs_4 h1 h2 (by rw [hT]; omega))
    rw [hS, hT, Int.toNat_natCast] at h
    exact h
  clear h1 h2 hS hT
  go_enter Try.func24, Try.ntmps24
  go_wp2_with fail
  refine (pss_impl_v _ _ _ L _ H1.out _ HS.out hm).mono ?_
  rintro e w1 ⟨rfl, hb⟩
  have HB1 := Lib.hid hb
  clear hb
  go_wp2_with fail
  refine (logJ_impl _ _ H2.out _).mono ?_
  rintro e w' ⟨rfl, rfl⟩
  go_wp2_with fail
  refine (pings_impl _ _ _ L l _ _ HST.out.1 HST.out.2 HG.out _ (sds_atJ HS.out HB1.out) hm).mono ?_
  rintro e w2 ⟨rfl, hb⟩
  have HB2 := Lib.hid (bthen HB1.out hb HB1.out.size)
  clear hb
  go_wp2_with fail
  refine (lowest_impl s d _ (by omega) (by omega) (by omega) (by omega)).mono ?_
  rintro e w3 ⟨rfl, hb⟩
  have HB3 := Lib.hid (bthen HB2.out hb HB2.out.size)
  clear hb
  go_wp2_with fail
  go_ret3
  exact num3J_is HP.out HB3.out
end Go.Proofs.Ytllfmjnniagjfaa
