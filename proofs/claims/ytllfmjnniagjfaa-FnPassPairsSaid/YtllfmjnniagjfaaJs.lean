/-
  Passes, the law's model: contracts of spec.MinutesOn, BusyShare, l11Pings, l11Sailed, GoodShare, LongestBreak over this translation. Conditions: stated at each theorem.
-/
import Derived.Test.YtllfmjnniagjfaaJw
import Derived.Test.YtllfmjnniagjfaaRed
namespace Go.Proofs.Ytllfmjnniagjfaa
open Go.RowKit
set_option linter.unusedVariables false

def Num2J (x : Int) (K : Bool) (w : World) (e : Ending) (w' : World) : Prop := e = .returned (.tuple #[.int .i64 x, .bool K]) ∧ Below w.heap.size w w'
theorem num2J_no {x : Int} {K : Bool} {w w' : World} (h : x = 0 ∧ K = false) (hb : Below w.heap.size w w') : Num2J x K w (.returned (.tuple #[.int .i64 0, .bool false])) w' := by obtain ⟨rfl, rfl⟩ := h; exact ⟨rfl, hb⟩
theorem num2J_is {x a : Int} {K : Bool} {w w' : World} (h : x = a ∧ K = true) (hb : Below w.heap.size w w') : Num2J x K w (.returned (.tuple #[.int .i64 a, .bool true])) w' := by obtain ⟨rfl, rfl⟩ := h; exact ⟨rfl, hb⟩
def Num3J (x y : Int) (K : Bool) (w : World) (e : Ending) (w' : World) : Prop := e = .returned (.tuple #[.int .i64 x, .int .i64 y, .bool K]) ∧ Below w.heap.size w w'
theorem num3J_no {x y : Int} {K : Bool} {w w' : World} (h : x = 0 ∧ y = 0 ∧ K = false) (hb : Below w.heap.size w w') : Num3J x y K w (.returned (.tuple #[.int .i64 0, .int .i64 0, .bool false])) w' := by obtain ⟨rfl, rfl, rfl⟩ := h; exact ⟨rfl, hb⟩
theorem num3J_is {x y a b : Int} {K : Bool} {w w' : World} (h : x = a ∧ y = b ∧ K = true) (hb : Below w.heap.size w w') : Num3J x y K w (.returned (.tuple #[.int .i64 a, .int .i64 b, .bool true])) w' := by obtain ⟨rfl, rfl, rfl⟩ := h; exact ⟨rfl, hb⟩
theorem tup2J {a b c d : Int} (h1 : a = b) (h2 : c = d) : Ending.returned (.tuple #[.int .i64 a, .int .i64 c]) = .returned (.tuple #[.int .i64 b, .int .i64 d]) := by rw [h1, h2]
/-! ### MinutesOn -/
def mtK (L : List PS) (l : Int) : Bool := pssB L && inB l 1 999
def mtR (L : List PS) (l : Int) : Int := if mtK L l then mnS L l L.length else 0
theorem mt_no {L : List PS} {l : Int} (h : mtK L l = false) : mtR L l = 0 ∧ mtK L l = false := ⟨by unfold mtR; rw [h]; rfl, h⟩
theorem mt_yes {L : List PS} {l : Int} (h : mtK L l = true) : mtR L l = mnS L l L.length ∧ mtK L l = true := ⟨by unfold mtR; rw [h, if_pos rfl], h⟩
theorem mt_1 {L : List PS} {l : Int} (h : pssB L = false) : mtK L l = false := by unfold mtK; rw [h]; rfl
theorem mt_2 {L : List PS} {l : Int} (h : inB l 1 999 = false) : mtK L l = false := by unfold mtK; rw [h, Bool.and_false]
theorem mt_3 {L : List PS} {l : Int} (h1 : pssB L = true) (h2 : inB l 1 999 = true) : mtK L l = true := by unfold mtK; rw [h1, h2]; rfl
set_option maxRecDepth 20000 in
set_option maxHeartbeats 3200000 in
theorem minutes_spec (A : Option Addr) (n c : Nat) (L : List PS) (l : Int) (w : World) (hs : SdsJ w w.heap.size A n L) (hm : n ≤ maxLen) :
    Calls Try.prog 30 #[.slice A n c, .int .i64 l] w (Num2J (mtR L l) (mtK L l) w) := by
  obtain rfl := hs.1
  have HS := Lib.hid hs
  clear hs
  rcases h1 : pssB L with _ | _
  · have H1 := Lib.hid h1
    clear h1
    go_enter Try.func30, Try.ntmps30
    go_wp2_with fail
    refine (pgood_spec_v _ _ _ L _ H1.out _ HS.out hm).mono ?_
    rintro e w1 ⟨rfl, hb⟩
    have HB1 := Lib.hid hb
    clear hb
    go_wp2_with fail
    go_ret2
    exact num2J_no (mt_no (mt_1 H1.out)) HB1.out
  have H1 := Lib.hid h1
  rcases h2 : inB l 1 999 with _ | _
  · have H2 := Lib.hid h2
    clear h1 h2
    go_enter Try.func30, Try.ntmps30
    go_wp2_with fail
    refine (pgood_spec_v _ _ _ L _ H1.out _ HS.out hm).mono ?_
    rintro e w1 ⟨rfl, hb⟩
    have HB1 := Lib.hid hb
    clear hb
    go_wp2_with fail
    refine (lineJ_spec _ _ H2.out _).mono ?_
    rintro e w' ⟨rfl, rfl⟩
    go_wp2_with fail
    go_ret2
    exact num2J_no (mt_no (mt_2 H2.out)) HB1.out
  have H2 := Lib.hid h2
  have HG := Lib.hid (good11_of h1)
  have h12 := (good11_of h1).max
  have HP := Lib.hid (mt_yes (mt_3 h1 h2))
  clear h1 h2
  go_enter Try.func30, Try.ntmps30
  go_wp2_with fail
  refine (pgood_spec_v _ _ _ L _ H1.out _ HS.out hm).mono ?_
  rintro e w1 ⟨rfl, hb⟩
  have HB1 := Lib.hid hb
  clear hb
  go_wp2_with fail
  refine (lineJ_spec _ _ H2.out _).mono ?_
  rintro e w' ⟨rfl, rfl⟩
  go_wp2_with fail
  go_loopw [6, 7] (fun q i wr => ∃ (k : Nat) (s : Int), k ≤ L.length ∧ i = .int .i64 k ∧ q = .int .i64 s ∧ Hid (s = mnS L l k) ∧ (0 ≤ s ∧ s ≤ 10000) ∧ Hid (Below w.heap.size w wr)) (fun _ i _ => L.length - (intOf i).toNat)
  case atStart => exact ⟨0, 0, Nat.zero_le _, rfl, rfl, Lib.hid rfl, by omega, HB1⟩
  case round =>
    obtain ⟨k, s, hk, rfl, rfl, hM, ⟨hs1, hs2⟩, hB⟩ := hrel
    by_cases hlt : k < L.length
    · obtain ⟨b, o, v, rfl, hbl, hL, c0, c1, c2, c3, c4, c5⟩ := (sds_atJ HS.out hB.out).2 k hlt
      have hat := psAt_at hL
      have hg := HG.out.one k hlt
      rw [hat] at hg
      have g1 := hg.b0
      have g2 := hg.be
      have g3 := hg.e1
      have htop := mnS_top HG.out l (k := k + 1) (by omega)
      obtain ⟨W0, rfl⟩ : ∃ W : World, W = wr := ⟨_, rfl⟩
      by_cases he : v.ln = l
      · have hd1 : (v.ln == l) = true := beq_iff_eq.2 he
        have hn : s + v.en - v.bg = mnS L l (k + 1) := by rw [mnS, hat, if_pos he, ← hM.out]
        rw [← hn] at htop
        have HN := Lib.hid hn
        clear hL hat he hg hn
        go_wp2_with fail
        have lc0 := lcell (c1)
        have lc1 := lcell (c2)
        refine region_later (W := W0) (by kernel_rfl) (by kernel_rfl) (Below.refl _ _) ?_
        repeat (go_big_quiet_step ((fail)))
        refine wpQuiet_nil ?_
        intro W1 hW1
        have HL : Hid (Below W0.heap.size W0 W1) := by obtain ⟨x, rfl⟩ := hW1; exact Lib.hid x.below
        clear hW1 lc0 lc1
        have HB2 := Lib.hid (bthen hB.out HL.out hB.out.size)
        clear c0 c1 c2 c3 c4 c5
        go_wp2_with fail
        go_roundw
        case rel => exact ⟨k + 1, s + v.en - v.bg, by omega, by go_num, by first | rfl | go_num, HN, htop, HB2⟩
        case measure => simp [intOf]; omega
      · have hd1 : (v.ln == l) = false := beq_eq_false_iff_ne.2 he
        have HN : Hid (s = mnS L l (k + 1)) := by unfold Hid; rw [mnS, hat, if_neg he, ← hM.out]
        clear hL hat he hg
        go_wp2_with fail
        have HB2 := hB
        go_roundw
        case rel => exact ⟨k + 1, s, by omega, by go_num, by first | rfl | go_num, HN, ⟨hs1, hs2⟩, HB2⟩
        case measure => simp [intOf]; omega
    · obtain rfl : k = L.length := by omega
      go_wp2_with fail
      go_ret2
      exact num2J_is (by rw [hM.out]; exact HP.out) hB.out
/-! ### BusyShare -/
def bsK (L : List PS) (f t : Int) : Bool := pssB L && inB t 0 10000 && inB f 0 (t - 1)
def bsN (L : List PS) (f t : Int) : Int := if bsK L f t then (bzS L f t L.length).tdiv (gd (bzS L f t L.length) (t - f).toNat : Nat) else 0
def bsD (L : List PS) (f t : Int) : Int := if bsK L f t then ((t - f).toNat : Int) / (gd (bzS L f t L.length) (t - f).toNat : Nat) else 0
theorem bs_no {L : List PS} {f t : Int} (h : bsK L f t = false) : bsN L f t = 0 ∧ bsD L f t = 0 ∧ bsK L f t = false := ⟨by unfold bsN; rw [h]; rfl, by unfold bsD; rw [h]; rfl, h⟩
theorem bs_yes {L : List PS} {f t : Int} (h : bsK L f t = true) : bsN L f t = (bzS L f t L.length).tdiv (gd (bzS L f t L.length) (t - f).toNat : Nat) ∧ bsD L f t = ((t - f).toNat : Int) / (gd (bzS L f t L.length) (t - f).toNat : Nat) ∧ bsK L f t = true := ⟨by unfold bsN; rw [h, if_pos rfl], by unfold bsD; rw [h, if_pos rfl], h⟩
theorem bs_1 {L : List PS} {f t : Int} (h : pssB L = false) : bsK L f t = false := by unfold bsK; rw [h]; rfl
theorem bs_2 {L : List PS} {f t : Int} (h : inB t 0 10000 = false) : bsK L f t = false := by unfold bsK; rw [h]; simp
theorem bs_3 {L : List PS} {f t : Int} (h : inB f 0 (t - 1) = false) : bsK L f t = false := by unfold bsK; rw [h]; simp
theorem bs_4 {L : List PS} {f t : Int} (h1 : pssB L = true) (h2 : inB t 0 10000 = true) (h3 : inB f 0 (t - 1) = true) : bsK L f t = true := by unfold bsK; rw [h1, h2, h3]; rfl
theorem leastJ_v (a b v : Int) (h : min a b = v) (w : World) : Calls Try.prog 80 #[.int .i64 a, .int .i64 b] w fun e w' => e = .returned (.int .i64 v) ∧ w = w' := h ▸ least_any a b w
theorem mostJ_v (a b v : Int) (h : max a b = v) (w : World) : Calls Try.prog 79 #[.int .i64 a, .int .i64 b] w fun e w' => e = .returned (.int .i64 v) ∧ w = w' := h ▸ most_any a b w
set_option maxRecDepth 20000 in
set_option maxHeartbeats 3200000 in
theorem busy_spec (A : Option Addr) (n c : Nat) (L : List PS) (f t : Int) (w : World) (hs : SdsJ w w.heap.size A n L) (hm : n ≤ maxLen) :
    Calls Try.prog 27 #[.slice A n c, .int .i64 f, .int .i64 t] w (Num3J (bsN L f t) (bsD L f t) (bsK L f t) w) := by
  obtain rfl := hs.1
  have HS := Lib.hid hs
  clear hs
  rcases h1 : pssB L with _ | _
  · have H1 := Lib.hid h1
    clear h1
    go_enter Try.func27, Try.ntmps27
    go_wp2_with fail
    refine (pgood_spec_v _ _ _ L _ H1.out _ HS.out hm).mono ?_
    rintro e w1 ⟨rfl, hb⟩
    have HB1 := Lib.hid hb
    clear hb
    go_wp2_with fail
    go_ret3
    exact num3J_no (bs_no (bs_1 H1.out)) HB1.out
  have H1 := Lib.hid h1
  rcases h2 : inB t 0 10000 with _ | _
  · have H2 := Lib.hid h2
    clear h1 h2
    go_enter Try.func27, Try.ntmps27
    go_wp2_with fail
    refine (pgood_spec_v _ _ _ L _ H1.out _ HS.out hm).mono ?_
    rintro e w1 ⟨rfl, hb⟩
    have HB1 := Lib.hid hb
    clear hb
    go_wp2_with fail
    refine (timeJ_spec _ _ H2.out _).mono ?_
    rintro e w' ⟨rfl, rfl⟩
    go_wp2_with fail
    go_ret3
    exact num3J_no (bs_no (bs_2 H2.out)) HB1.out
  have H2 := Lib.hid h2
  obtain ⟨t1, t2⟩ := inB_yes h2
  rcases h3 : inB f 0 (t - 1) with _ | _
  · have H3 := Lib.hid h3
    clear h1 h2 h3
    go_enter Try.func27, Try.ntmps27
    go_wp2_with fail
    refine (pgood_spec_v _ _ _ L _ H1.out _ HS.out hm).mono ?_
    rintro e w1 ⟨rfl, hb⟩
    have HB1 := Lib.hid hb
    clear hb
    go_wp2_with fail
    refine (timeJ_spec _ _ H2.out _).mono ?_
    rintro e w' ⟨rfl, rfl⟩
    go_wp2_with fail
    refine (l1In_v _ _ _ _ H3.out _).mono ?_
    rintro e w' ⟨rfl, rfl⟩
    go_wp2_with fail
    go_ret3
    exact num3J_no (bs_no (bs_3 H3.out)) HB1.out
  have H3 := Lib.hid h3
  have HG := Lib.hid (good11_of h1)
  have h12 := (good11_of h1).max
  obtain ⟨f1, f2⟩ := inB_yes h3
  have HP := Lib.hid (bs_yes (bs_4 h1 h2 h3))
  obtain ⟨d, hd⟩ : ∃ d : Nat, t - f = d := ⟨(t - f).toNat, by omega⟩
  have hdn : (t - f).toNat = d := by omega
  rw [hdn] at HP
  clear h1 h2 h3 hdn
  go_enter Try.func27, Try.ntmps27
  go_wp2_with fail
  refine (pgood_spec_v _ _ _ L _ H1.out _ HS.out hm).mono ?_
  rintro e w1 ⟨rfl, hb⟩
  have HB1 := Lib.hid hb
  clear hb
  go_wp2_with fail
  refine (timeJ_spec _ _ H2.out _).mono ?_
  rintro e w' ⟨rfl, rfl⟩
  go_wp2_with fail
  refine (l1In_v _ _ _ _ H3.out _).mono ?_
  rintro e w' ⟨rfl, rfl⟩
  go_wp2_with fail
  go_loopw [9, 10] (fun q i wr => ∃ (k : Nat) (s : Int), k ≤ L.length ∧ i = .int .i64 k ∧ q = .int .i64 s ∧ Hid (s = bzS L f t k) ∧ (0 ≤ s ∧ s ≤ 10000) ∧ Hid (Below w.heap.size w wr)) (fun _ i _ => L.length - (intOf i).toNat)
  case atStart => exact ⟨0, 0, Nat.zero_le _, rfl, rfl, Lib.hid rfl, by omega, HB1⟩
  case round =>
    obtain ⟨k, s, hk, rfl, rfl, hM, ⟨hs1, hs2⟩, hB⟩ := hrel
    by_cases hlt : k < L.length
    · obtain ⟨b, o, v, rfl, hbl, hL, c0, c1, c2, c3, c4, c5⟩ := (sds_atJ HS.out hB.out).2 k hlt
      have hat := psAt_at hL
      have hg := HG.out.one k hlt
      rw [hat] at hg
      have g1 := hg.b0
      have g2 := hg.be
      have g3 := hg.e1
      have htop := bz_le HG.out f1 (show f < t by omega) (k := k + 1) (by omega)
      obtain ⟨p, hp⟩ : ∃ p, min t v.en = p := ⟨_, rfl⟩
      obtain ⟨q, hq⟩ : ∃ q, max f v.bg = q := ⟨_, rfl⟩
      obtain ⟨r, hr⟩ : ∃ r, max 0 (p - q) = r := ⟨_, rfl⟩
      have hn : s + r = bzS L f t (k + 1) := by rw [bzS, hat, ← hM.out]; unfold bzI; rw [hp, hq, hr]
      rw [← hn] at htop
      have hb9 : (0 ≤ p ∧ p ≤ 10000) ∧ (0 ≤ q ∧ q ≤ 10000) ∧ 0 ≤ r ∧ r ≤ 10000 := by omega
      obtain ⟨⟨pb1, pb2⟩, ⟨qb1, qb2⟩, rb1, rb2⟩ := hb9
      have HN := Lib.hid hn
      have HPQ := Lib.hid (And.intro hp (And.intro hq hr))
      clear hL hat hg hn hp hq hr
      obtain ⟨W0, rfl⟩ : ∃ W : World, W = wr := ⟨_, rfl⟩
      go_wp2_with fail
      have lc0 := lcell (c1)
      have lc1 := lcell (c2)
      refine region_later (W := W0) (by kernel_rfl) (by kernel_rfl) (Below.refl _ _) ?_
      repeat (go_big_quiet_step (((first | (go_at_call 80; with_reducible exact later_same (leastJ_v _ _ p HPQ.out.1 _)) | (go_at_call 79; with_reducible exact later_same (mostJ_v f _ q HPQ.out.2.1 _)) | (go_at_call 79; with_reducible exact later_same (mostJ_v 0 _ r HPQ.out.2.2 _))))))
      refine wpQuiet_nil ?_
      intro W1 hW1
      have HL : Hid (Below W0.heap.size W0 W1) := by obtain ⟨x, rfl⟩ := hW1; exact Lib.hid x.below
      clear hW1 lc0 lc1
      have HB2 := Lib.hid (bthen hB.out HL.out hB.out.size)
      clear c0 c1 c2 c3 c4 c5
      go_wp2_with fail
      go_roundw
      case rel => exact ⟨k + 1, s + r, by omega, by go_num, by first | rfl | go_num, HN, by omega, HB2⟩
      case measure => simp [intOf]; omega
    · obtain rfl : k = L.length := by omega
      go_wp2_with fail
      refine (reduce_spec s d _ (by omega) (by omega) (by omega) (by omega)).mono ?_
      rintro e w3 ⟨rfl, hb⟩
      have HB3 := Lib.hid (bthen hB.out hb hB.out.size)
      have HQ : Hid (bsN L f t = s.tdiv (gd s d : Nat) ∧ bsD L f t = (d : Int) / (gd s d : Nat) ∧ bsK L f t = true) := by rw [hM.out]; exact HP
      clear hb
      go_wp2_with fail
      go_ret3
      exact num3J_is HQ.out HB3.out
/-! ### Pings -/
set_option maxRecDepth 20000 in
set_option maxHeartbeats 3200000 in
theorem pings_any (A : Option Addr) (n c : Nat) (L : List PS) (l : Int) (w : World) (hs : SdsJ w w.heap.size A n L) (hm : n ≤ maxLen) :
    Calls Try.prog 94 #[.slice A n c, .int .i64 l] w fun e w' => (∃ s t, e = .returned (.tuple #[.int .i64 s, .int .i64 t])) ∧ Below w.heap.size w w' := by
  obtain rfl := hs.1
  have HS := Lib.hid hs
  clear hs
  unfold maxLen at hm
  go_enter Try.func94, Try.ntmps94
  go_wp2_with fail
  go_loopw [6, 7, 8] (fun q r i wr => ∃ (k : Nat) (s t : Int), k ≤ L.length ∧ i = .int .i64 k ∧ q = .int .i64 s ∧ r = .int .i64 t ∧  Hid (Below w.heap.size w wr)) (fun _ _ i _ => L.length - (intOf i).toNat)
  case atStart => exact ⟨0, 0, 0, Nat.zero_le _, rfl, rfl, rfl,  Lib.hid (Below.refl _ _)⟩
  case round =>
    obtain ⟨k, s, t, hk, rfl, rfl, rfl,  hB⟩ := hrel
    by_cases hlt : k < L.length
    · obtain ⟨b, o, v, rfl, hbl, hL, c0, c1, c2, c3, c4, c5⟩ := (sds_atJ HS.out hB.out).2 k hlt
      have hat := psAt_at hL
      by_cases he : v.ln = l
      · have hd1 : (v.ln == l) = true := beq_iff_eq.2 he
        clear hL hat he
        obtain ⟨W0, rfl⟩ : ∃ W : World, W = wr := ⟨_, rfl⟩
        go_wp2_with fail
        have lc0 := lcell (c3)
        have lc1 := lcell (c4)
        refine region_later (W := W0) (by kernel_rfl) (by kernel_rfl) (Below.refl _ _) ?_
        repeat (go_big_quiet_step ((fail)))
        refine wpQuiet_nil ?_
        intro W1 hW1
        have HL : Hid (Below W0.heap.size W0 W1) := by obtain ⟨x, rfl⟩ := hW1; exact Lib.hid x.below
        clear hW1 lc0 lc1
        have HB2 := Lib.hid (bthen hB.out HL.out hB.out.size)
        have c3n := cell_next HL.out c3
        go_wp2_with fail
        go_roundw
        case rel => exact ⟨k + 1, _, _, by omega, by go_num, rfl, rfl,  HB2⟩
        case measure => simp [intOf]; omega
      · have hd1 : (v.ln == l) = false := beq_eq_false_iff_ne.2 he
        clear hL hat he
        go_wp2_with fail
        go_roundw
        case rel => exact ⟨k + 1, s, t, by omega, by go_num, rfl, rfl,  hB⟩
        case measure => simp [intOf]; omega
    · obtain rfl : k = L.length := by omega
      go_wp2_with fail
      go_ret2
      exact ⟨⟨s, t, rfl⟩, hB.out⟩
set_option maxRecDepth 20000 in
set_option maxHeartbeats 3200000 in
theorem pings_spec (A : Option Addr) (n c : Nat) (L : List PS) (l : Int) (S T : Int) (hS : gpS L l L.length = S) (hT : apS L l L.length = T) (hg : Good11 L) (w : World) (hs : SdsJ w w.heap.size A n L) (hm : n ≤ maxLen) :
    Calls Try.prog 94 #[.slice A n c, .int .i64 l] w fun e w' => e = .returned (.tuple #[.int .i64 S, .int .i64 T]) ∧ Below w.heap.size w w' := by
  obtain rfl := hs.1
  have HS := Lib.hid hs
  have HG := Lib.hid hg
  have HST := Lib.hid (And.intro hS hT)
  have h12 := hg.max
  clear hS hT hg
  clear hs
  unfold maxLen at hm
  go_enter Try.func94, Try.ntmps94
  go_wp2_with fail
  go_loopw [6, 7, 8] (fun q r i wr => ∃ (k : Nat) (s t : Int), k ≤ L.length ∧ i = .int .i64 k ∧ q = .int .i64 s ∧ r = .int .i64 t ∧ Hid (s = gpS L l k ∧ t = apS L l k) ∧ (0 ≤ s ∧ s ≤ t ∧ t ≤ 100000 * (k : Int)) ∧ Hid (Below w.heap.size w wr)) (fun _ _ i _ => L.length - (intOf i).toNat)
  case atStart => exact ⟨0, 0, 0, Nat.zero_le _, rfl, rfl, rfl, Lib.hid ⟨rfl, rfl⟩, by omega, Lib.hid (Below.refl _ _)⟩
  case round =>
    obtain ⟨k, s, t, hk, rfl, rfl, rfl, hM, ⟨hs1, hs2, hs3⟩, hB⟩ := hrel
    by_cases hlt : k < L.length
    · obtain ⟨b, o, v, rfl, hbl, hL, c0, c1, c2, c3, c4, c5⟩ := (sds_atJ HS.out hB.out).2 k hlt
      have hat := psAt_at hL
      have hg := HG.out.one k hlt
      rw [hat] at hg
      have g1 := hg.p0
      have g2 := hg.p1
      have g3 := hg.d0
      have g4 := hg.d1
      clear hg
      by_cases he : v.ln = l
      · have hd1 : (v.ln == l) = true := beq_iff_eq.2 he
        have HN : Hid (s + v.pi - v.bd = gpS L l (k + 1) ∧ t + v.pi = apS L l (k + 1)) := by unfold Hid; rw [gpS, apS, hat, if_pos he, if_pos he, ← hM.out.1, ← hM.out.2]; exact ⟨rfl, rfl⟩
        clear hL hat he
        obtain ⟨W0, rfl⟩ : ∃ W : World, W = wr := ⟨_, rfl⟩
        go_wp2_with fail
        have lc0 := lcell (c3)
        have lc1 := lcell (c4)
        refine region_later (W := W0) (by kernel_rfl) (by kernel_rfl) (Below.refl _ _) ?_
        repeat (go_big_quiet_step ((fail)))
        refine wpQuiet_nil ?_
        intro W1 hW1
        have HL : Hid (Below W0.heap.size W0 W1) := by obtain ⟨x, rfl⟩ := hW1; exact Lib.hid x.below
        clear hW1 lc0 lc1
        have HB2 := Lib.hid (bthen hB.out HL.out hB.out.size)
        have c3n := cell_next HL.out c3
        go_wp2_with fail
        go_roundw
        case rel => exact ⟨k + 1, _, _, by omega, by go_num, rfl, rfl, HN, by omega, HB2⟩
        case measure => simp [intOf]; omega
      · have hd1 : (v.ln == l) = false := beq_eq_false_iff_ne.2 he
        have HN : Hid (s = gpS L l (k + 1) ∧ t = apS L l (k + 1)) := by unfold Hid; rw [gpS, apS, hat, if_neg he, if_neg he, ← hM.out.1, ← hM.out.2]; exact ⟨rfl, rfl⟩
        clear hL hat he
        go_wp2_with fail
        go_roundw
        case rel => exact ⟨k + 1, s, t, by omega, by go_num, rfl, rfl, HN, by omega, hB⟩
        case measure => simp [intOf]; omega
    · obtain rfl : k = L.length := by omega
      go_wp2_with fail
      go_ret2
      exact ⟨tup2J (hM.out.1.trans HST.out.1) (hM.out.2.trans HST.out.2), hB.out⟩
set_option maxHeartbeats 1600000 in
theorem sail_spec (A : Option Addr) (n c : Nat) (L : List PS) (l : Int) (r : Bool) (hr : sailB L l = r) (w : World) (hs : SdsJ w w.heap.size A n L) (hm : n ≤ maxLen) (hg : Good11 L) :
    Calls Try.prog 67 #[.slice A n c, .int .i64 l] w fun e w' => e = .returned (.bool r) ∧ Below w.heap.size w w' := by
  have HS := Lib.hid hs
  have HG := Lib.hid hg
  have hb := pings_bd hg l (Nat.le_refl L.length)
  have h12 := hg.max
  unfold sailB at hr
  obtain ⟨S, hS⟩ : ∃ S, gpS L l L.length = S := ⟨_, rfl⟩
  obtain ⟨T, hT⟩ : ∃ T, apS L l L.length = T := ⟨_, rfl⟩
  rw [hS, hT] at hb
  rw [hS, hT] at hr
  obtain ⟨b1, b2, b3⟩ := hb
  have HST := Lib.hid (And.intro hS hT)
  clear hs hg hS hT
  by_cases h0 : 0 < T
  · have hd1 : decide (T > 0) = true := decide_eq_true h0
    rw [show decide (0 < T) = true from decide_eq_true h0, Bool.true_and] at hr
    have HR := Lib.hid hr
    clear hr
    go_enter Try.func67, Try.ntmps67
    go_wp2_with fail
    refine (pings_spec _ _ _ L l S T HST.out.1 HST.out.2 HG.out _ HS.out hm).mono ?_
    rintro e w1 ⟨rfl, hb⟩
    have HB := Lib.hid hb
    clear hb
    go_wp2_with fail
    go_ret
    exact ⟨ret_bool (by first | exact HR.out | simp [HR.out]), HB.out⟩
  · have hd1 : decide (T > 0) = false := decide_eq_false h0
    rw [show decide (0 < T) = false from decide_eq_false h0, Bool.false_and] at hr
    subst hr
    go_enter Try.func67, Try.ntmps67
    go_wp2_with fail
    refine (pings_spec _ _ _ L l S T HST.out.1 HST.out.2 HG.out _ HS.out hm).mono ?_
    rintro e w1 ⟨rfl, hb⟩
    have HB := Lib.hid hb
    clear hb
    go_wp2_with fail
    go_ret
    exact ⟨ret_bool (by first | rfl | simp), HB.out⟩
/-! ### GoodShare -/
def gsK (L : List PS) (l : Int) : Bool := pssB L && inB l 1 999 && decide (0 < apS L l L.length)
def gsN (L : List PS) (l : Int) : Int := if gsK L l then (gpS L l L.length).tdiv (gd (gpS L l L.length) (apS L l L.length).toNat : Nat) else 0
def gsD (L : List PS) (l : Int) : Int := if gsK L l then ((apS L l L.length).toNat : Int) / (gd (gpS L l L.length) (apS L l L.length).toNat : Nat) else 0
theorem gs_no {L : List PS} {l : Int} (h : gsK L l = false) : gsN L l = 0 ∧ gsD L l = 0 ∧ gsK L l = false := ⟨by unfold gsN; rw [h]; rfl, by unfold gsD; rw [h]; rfl, h⟩
theorem gs_yes {L : List PS} {l : Int} (h : gsK L l = true) : gsN L l = (gpS L l L.length).tdiv (gd (gpS L l L.length) (apS L l L.length).toNat : Nat) ∧ gsD L l = ((apS L l L.length).toNat : Int) / (gd (gpS L l L.length) (apS L l L.length).toNat : Nat) ∧ gsK L l = true := ⟨by unfold gsN; rw [h, if_pos rfl], by unfold gsD; rw [h, if_pos rfl], h⟩
theorem gs_1 {L : List PS} {l : Int} (h : pssB L = false) : gsK L l = false := by unfold gsK; rw [h]; rfl
theorem gs_2 {L : List PS} {l : Int} (h : inB l 1 999 = false) : gsK L l = false := by unfold gsK; rw [h]; simp
theorem gs_3 {L : List PS} {l : Int} (h : ¬ 0 < apS L l L.length) : gsK L l = false := by unfold gsK; rw [decide_eq_false h]; simp
theorem gs_4 {L : List PS} {l : Int} (h1 : pssB L = true) (h2 : inB l 1 999 = true) (h3 : 0 < apS L l L.length) : gsK L l = true := by unfold gsK; rw [h1, h2, decide_eq_true h3]; rfl
set_option maxRecDepth 20000 in
set_option maxHeartbeats 3200000 in
theorem share_spec (A : Option Addr) (n c : Nat) (L : List PS) (l : Int) (w : World) (hs : SdsJ w w.heap.size A n L) (hm : n ≤ maxLen) :
    Calls Try.prog 44 #[.slice A n c, .int .i64 l] w (Num3J (gsN L l) (gsD L l) (gsK L l) w) := by
  obtain rfl := hs.1
  have HS := Lib.hid hs
  clear hs
  rcases h1 : pssB L with _ | _
  · have H1 := Lib.hid h1
    clear h1
    go_enter Try.func44, Try.ntmps44
    go_wp2_with fail
    refine (pings_any _ _ _ L l _ HS.out hm).mono ?_
    rintro e w1 ⟨⟨s, t, rfl⟩, hb⟩
    have HB1 := Lib.hid hb
    clear hb
    go_wp2_with fail
    refine (pgood_spec_v _ _ _ L _ H1.out _ (sds_atJ HS.out HB1.out) hm).mono ?_
    rintro e w2 ⟨rfl, hb⟩
    have HB2 := Lib.hid (bthen HB1.out hb HB1.out.size)
    clear hb
    go_wp2_with fail
    go_ret3
    exact num3J_no (gs_no (gs_1 H1.out)) HB2.out
  have H1 := Lib.hid h1
  have HG := Lib.hid (good11_of h1)
  have h12 := (good11_of h1).max
  obtain ⟨s1, s2, s3⟩ := pings_bd HG.out l (Nat.le_refl L.length)
  obtain ⟨s, hS⟩ : ∃ s, gpS L l L.length = s := ⟨_, rfl⟩
  obtain ⟨t, hT⟩ : ∃ t, apS L l L.length = t := ⟨_, rfl⟩
  rw [hS] at s1 s2
  rw [hT] at s2 s3
  have HST := Lib.hid (And.intro hS hT)
  rcases h2 : inB l 1 999 with _ | _
  · have H2 := Lib.hid h2
    clear h1 h2 hS hT
    go_enter Try.func44, Try.ntmps44
    go_wp2_with fail
    refine (pings_spec _ _ _ L l _ _ HST.out.1 HST.out.2 HG.out _ HS.out hm).mono ?_
    rintro e w1 ⟨rfl, hb⟩
    have HB1 := Lib.hid hb
    clear hb
    go_wp2_with fail
    refine (pgood_spec_v _ _ _ L _ H1.out _ (sds_atJ HS.out HB1.out) hm).mono ?_
    rintro e w2 ⟨rfl, hb⟩
    have HB2 := Lib.hid (bthen HB1.out hb HB1.out.size)
    clear hb
    go_wp2_with fail
    refine (lineJ_spec _ _ H2.out _).mono ?_
    rintro e w' ⟨rfl, rfl⟩
    go_wp2_with fail
    go_ret3
    exact num3J_no (gs_no (gs_2 H2.out)) HB2.out
  have H2 := Lib.hid h2
  by_cases h0 : t = 0
  · subst h0
    have HP := Lib.hid (gs_3 (L := L) (l := l) (by omega))
    clear h1 h2 hS hT
    go_enter Try.func44, Try.ntmps44
    go_wp2_with fail
    refine (pings_spec _ _ _ L l _ _ HST.out.1 HST.out.2 HG.out _ HS.out hm).mono ?_
    rintro e w1 ⟨rfl, hb⟩
    have HB1 := Lib.hid hb
    clear hb
    go_wp2_with fail
    refine (pgood_spec_v _ _ _ L _ H1.out _ (sds_atJ HS.out HB1.out) hm).mono ?_
    rintro e w2 ⟨rfl, hb⟩
    have HB2 := Lib.hid (bthen HB1.out hb HB1.out.size)
    clear hb
    go_wp2_with fail
    refine (lineJ_spec _ _ H2.out _).mono ?_
    rintro e w' ⟨rfl, rfl⟩
    go_wp2_with fail
    go_ret3
    exact num3J_no (gs_no HP.out) HB2.out
  have hd0 : (t == 0) = false := beq_eq_false_iff_ne.2 h0
  obtain ⟨d, rfl⟩ : ∃ d : Nat, t = d := ⟨t.toNat, by omega⟩
  have HP : Hid (gsN L l = s.tdiv (gd s d : Nat) ∧ gsD L l = (d : Int) / (gd s d : Nat) ∧ gsK L l = true) := by
    have h := gs_yes (gs_4 h1 h2 (by rw [hT]; omega))
    rw [hS, hT, Int.toNat_natCast] at h
    exact h
  clear h1 h2 hS hT
  go_enter Try.func44, Try.ntmps44
  go_wp2_with fail
  refine (pings_spec _ _ _ L l _ _ HST.out.1 HST.out.2 HG.out _ HS.out hm).mono ?_
  rintro e w1 ⟨rfl, hb⟩
  have HB1 := Lib.hid hb
  clear hb
  go_wp2_with fail
  refine (pgood_spec_v _ _ _ L _ H1.out _ (sds_atJ HS.out HB1.out) hm).mono ?_
  rintro e w2 ⟨rfl, hb⟩
  have HB2 := Lib.hid (bthen HB1.out hb HB1.out.size)
  clear hb
  go_wp2_with fail
  refine (lineJ_spec _ _ H2.out _).mono ?_
  rintro e w' ⟨rfl, rfl⟩
  go_wp2_with fail
  refine (reduce_spec s d _ (by omega) (by omega) (by omega) (by omega)).mono ?_
  rintro e w3 ⟨rfl, hb⟩
  have HB3 := Lib.hid (bthen HB2.out hb HB2.out.size)
  clear hb
  go_wp2_with fail
  go_ret3
  exact num3J_is HP.out HB3.out
/-! ### LongestBreak -/
def lbG (L : List PS) : Bool := pssB L && decide (2 ≤ L.length)
def lbX (L : List PS) : Int := if lbG L then (psAt L (lbK L (L.length - 2) - 1)).en else 0
def lbY (L : List PS) : Int := if lbG L then (psAt L (lbK L (L.length - 2))).bg else 0
theorem lb_no {L : List PS} (h : lbG L = false) : lbX L = 0 ∧ lbY L = 0 ∧ lbG L = false := ⟨by unfold lbX; rw [h]; rfl, by unfold lbY; rw [h]; rfl, h⟩
theorem lb_yes {L : List PS} (h : lbG L = true) : lbX L = (psAt L (lbK L (L.length - 2) - 1)).en ∧ lbY L = (psAt L (lbK L (L.length - 2))).bg ∧ lbG L = true := ⟨by unfold lbX; rw [h, if_pos rfl], by unfold lbY; rw [h, if_pos rfl], h⟩
set_option maxRecDepth 20000 in
set_option maxHeartbeats 3200000 in
theorem longest_spec (A : Option Addr) (n c : Nat) (L : List PS) (w : World) (hs : SdsJ w w.heap.size A n L) (hm : n ≤ maxLen) :
    Calls Try.prog 37 #[.slice A n c] w (Num3J (lbX L) (lbY L) (lbG L) w) := by
  obtain rfl := hs.1
  have HS := Lib.hid hs
  clear hs
  rcases h1 : pssB L with _ | _
  · have H1 := Lib.hid h1
    clear h1
    go_enter Try.func37, Try.ntmps37
    go_wp2_with fail
    refine (pgood_spec_v _ _ _ L _ H1.out _ HS.out hm).mono ?_
    rintro e w1 ⟨rfl, hb⟩
    have HB1 := Lib.hid hb
    clear hb
    go_wp2_with fail
    go_ret3
    exact num3J_no (lb_no (by unfold lbG; rw [H1.out]; rfl)) HB1.out
  have H1 := Lib.hid h1
  by_cases h2 : L.length < 2
  · have HN : Hid (lbG L = false) := by unfold Hid lbG; rw [decide_eq_false (by omega), Bool.and_false]
    clear h1
    go_enter Try.func37, Try.ntmps37
    go_wp2_with fail
    refine (pgood_spec_v _ _ _ L _ H1.out _ HS.out hm).mono ?_
    rintro e w1 ⟨rfl, hb⟩
    have HB1 := Lib.hid hb
    clear hb
    go_wp2_with fail
    go_ret3
    exact num3J_no (lb_no HN.out) HB1.out
  have HG := Lib.hid (good11_of h1)
  have h12 := (good11_of h1).max
  have HP : Hid (lbX L = (psAt L (lbK L (L.length - 2) - 1)).en ∧ lbY L = (psAt L (lbK L (L.length - 2))).bg ∧ lbG L = true) := lb_yes (by unfold lbG; rw [h1, decide_eq_true (by omega)]; rfl)
  clear h1
  go_enter Try.func37, Try.ntmps37
  go_wp2_with fail
  refine (pgood_spec_v _ _ _ L _ H1.out _ HS.out hm).mono ?_
  rintro e w1 ⟨rfl, hb⟩
  have HB1 := Lib.hid hb
  clear hb
  go_wp2_with fail
  go_loopw [5, 6] (fun q i wr => ∃ (k m : Nat), k + 2 ≤ L.length ∧ i = .int .i64 (k + 2 : Nat) ∧ q = .int .i64 (m : Nat) ∧ Hid (m = lbK L k) ∧ (1 ≤ m ∧ m ≤ k + 1) ∧ Hid (Below w.heap.size w wr)) (fun _ i _ => L.length - (intOf i).toNat)
  case atStart => exact ⟨0, 1, by omega, rfl, rfl, Lib.hid rfl, by omega, HB1⟩
  case round =>
    obtain ⟨k, m, hk, rfl, rfl, hM, ⟨hm1, hm2⟩, hB⟩ := hrel
    by_cases hlt : k + 2 < L.length
    · obtain ⟨b, o, u1, rfl, hbl, hL1, a0, a1, a2, a3, a4, a5⟩ := (sds_atJ HS.out hB.out).2 (k + 2) hlt
      obtain ⟨b', o', u2, hA', hbl', hL2, b0, b1, b2, b3, b4, b5⟩ := (sds_atJ HS.out hB.out).2 (k + 1) (by omega)
      obtain ⟨rfl, rfl⟩ : b = b' ∧ o = o' := by injection hA' with h; injection h with h h'; exact ⟨h, h'⟩
      obtain ⟨b', o', u3, hA3, hbl3, hL3, d0, d1, d2, d3, d4, d5⟩ := (sds_atJ HS.out hB.out).2 m (by omega)
      obtain ⟨rfl, rfl⟩ : b = b' ∧ o = o' := by injection hA3 with h; injection h with h h'; exact ⟨h, h'⟩
      obtain ⟨b', o', u4, hA4, hbl4, hL4, f0, f1, f2, f3, f4, f5⟩ := (sds_atJ HS.out hB.out).2 (m - 1) (by omega)
      obtain ⟨rfl, rfl⟩ : b = b' ∧ o = o' := by injection hA4 with h; injection h with h h'; exact ⟨h, h'⟩
      have hI1 : brI L (k + 2) = u1.bg - u2.en := by unfold brI; rw [psAt_at hL1, Nat.add_sub_cancel (n := k + 1) (m := 1), psAt_at hL2]
      have hI2 : brI L m = u3.bg - u4.en := by unfold brI; rw [psAt_at hL3, psAt_at hL4]
      have hr1 := brI_bd HG.out (k := k + 2) (by omega) hlt
      have hr2 := brI_bd HG.out (k := m) hm1 (by omega)
      have g1 := HG.out.one (k + 2) hlt
      have g2 := HG.out.one (k + 1) (by omega)
      have g3 := HG.out.one m (by omega)
      have g4 := HG.out.one (m - 1) (by omega)
      rw [psAt_at hL1] at g1
      rw [psAt_at hL2] at g2
      rw [psAt_at hL3] at g3
      rw [psAt_at hL4] at g4
      have i1 := g1.b0
      have i2 := g1.be
      have i3 := g1.e1
      have i4 := g2.b0
      have i5 := g2.be
      have i6 := g2.e1
      have i7 := g3.b0
      have i8 := g3.be
      have i9 := g3.e1
      have j1 := g4.b0
      have j2 := g4.be
      have j3 := g4.e1
      clear g1 g2 g3 g4 hA' hA3 hA4 hbl hbl' hbl3 hbl4 hL1 hL2 hL3 hL4
      obtain ⟨W0, rfl⟩ : ∃ W : World, W = wr := ⟨_, rfl⟩
      by_cases hx : u1.bg - u2.en > u3.bg - u4.en
      · have hd1 : decide (u1.bg - u2.en > u3.bg - u4.en) = true := decide_eq_true hx
        have HN : Hid (k + 2 = lbK L (k + 1)) := by
          unfold Hid
          rw [lbK, ← hM.out, if_pos (by rw [hI1, hI2]; exact hx)]
        go_wp2_with fail
        have lc0 := lcell (a1)
        have lc1 := lcell (b2)
        have lc2 := lcell (d1)
        have lc3 := lcell (f2)
        refine region_later (W := W0) (by kernel_rfl) (by kernel_rfl) (Below.refl _ _) ?_
        repeat (go_big_quiet_step ((fail)))
        refine wpQuiet_nil ?_
        intro W1 hW1
        have HL : Hid (Below W0.heap.size W0 W1) := by obtain ⟨x, rfl⟩ := hW1; exact Lib.hid x.below
        clear hW1 lc0 lc1 lc2 lc3
        have HB2 := Lib.hid (bthen hB.out HL.out hB.out.size)
        clear a0 a1 a2 a3 a4 a5 b0 b1 b2 b3 b4 b5 d0 d1 d2 d3 d4 d5 f0 f1 f2 f3 f4 f5
        go_wp2_with fail
        go_roundw
        case rel => exact ⟨k + 1, k + 2, by omega, by go_num, by first | rfl | go_num, HN, by omega, HB2⟩
        case measure => simp [intOf]; omega
      · have hd1 : decide (u1.bg - u2.en > u3.bg - u4.en) = false := decide_eq_false hx
        have HN : Hid (m = lbK L (k + 1)) := by
          unfold Hid
          rw [lbK, ← hM.out, if_neg (by rw [hI1, hI2]; exact hx)]
        go_wp2_with fail
        have lc0 := lcell (a1)
        have lc1 := lcell (b2)
        have lc2 := lcell (d1)
        have lc3 := lcell (f2)
        refine region_later (W := W0) (by kernel_rfl) (by kernel_rfl) (Below.refl _ _) ?_
        repeat (go_big_quiet_step ((fail)))
        refine wpQuiet_nil ?_
        intro W1 hW1
        have HL : Hid (Below W0.heap.size W0 W1) := by obtain ⟨x, rfl⟩ := hW1; exact Lib.hid x.below
        clear hW1 lc0 lc1 lc2 lc3
        have HB2 := Lib.hid (bthen hB.out HL.out hB.out.size)
        clear a0 a1 a2 a3 a4 a5 b0 b1 b2 b3 b4 b5 d0 d1 d2 d3 d4 d5 f0 f1 f2 f3 f4 f5
        go_wp2_with fail
        go_roundw
        case rel => exact ⟨k + 1, m, by omega, by go_num, rfl, HN, by omega, HB2⟩
        case measure => simp [intOf]; omega
    · obtain rfl : k = L.length - 2 := by omega
      obtain ⟨b, o, u1, rfl, hbl, hL1, a0, a1, a2, a3, a4, a5⟩ := (sds_atJ HS.out hB.out).2 m (by omega)
      obtain ⟨b', o', u2, hA', hbl', hL2, b0, b1, b2, b3, b4, b5⟩ := (sds_atJ HS.out hB.out).2 (m - 1) (by omega)
      obtain ⟨rfl, rfl⟩ : b = b' ∧ o = o' := by injection hA' with h; injection h with h h'; exact ⟨h, h'⟩
      have HQ : Hid (lbX L = u2.en ∧ lbY L = u1.bg ∧ lbG L = true) := by
        unfold Hid
        rw [← psAt_at hL1, ← psAt_at hL2, hM.out]
        exact HP.out
      obtain ⟨W0, rfl⟩ : ∃ W : World, W = wr := ⟨_, rfl⟩
      clear hA' hbl hbl' hL1 hL2
      go_wp2_with fail
      have lc0 := lcell (b2)
      have lc1 := lcell (a1)
      refine region_later (W := W0) (by kernel_rfl) (by kernel_rfl) (Below.refl _ _) ?_
      repeat (go_big_quiet_step ((fail)))
      refine wpQuiet_nil ?_
      intro W1 hW1
      have HL : Hid (Below W0.heap.size W0 W1) := by obtain ⟨x, rfl⟩ := hW1; exact Lib.hid x.below
      clear hW1 lc0 lc1
      have HB2 := Lib.hid (bthen hB.out HL.out hB.out.size)
      clear a0 a1 a2 a3 a4 a5 b0 b1 b2 b3 b4 b5
      go_wp2_with fail
      go_ret3
      exact num3J_is HQ.out HB2.out
end Go.Proofs.Ytllfmjnniagjfaa
