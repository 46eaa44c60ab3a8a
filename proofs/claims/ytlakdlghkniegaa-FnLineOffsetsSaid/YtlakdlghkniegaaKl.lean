/-
  Lines: contracts of impl.crossingsOf, OffsetOfLine, CorrectLine, spec.l10Offset, OffsetOfLine, CorrectLine over this translation. Conditions: stated at each theorem.
-/
import Derived.Test.YtlakdlghkniegaaKd
import Derived.Test.YtlakdlghkniegaaXr
import Derived.Deep.DeepCutAuto
namespace Go.Proofs.Ytlakdlghkniegaa
open Go.RowKit
set_option linter.unusedVariables false

theorem own_cap {w : World} {base e z n c : Nat} {A : Option Addr} {xs : List Value} (h : w.ownsRow base e z (.slice A n c) n xs) : n ≤ c := by
  obtain ⟨_, ⟨_, hn⟩ | ⟨g, cap, cur, hv, _, _, hn, _⟩⟩ := h
  · omega
  · injection hv with _ _ h3
    omega
theorem tup2 {a b c d : Int} (h1 : a = b) (h2 : c = d) : Ending.returned (.tuple #[.int .i64 a, .int .i64 c]) = .returned (.tuple #[.int .i64 b, .int .i64 d]) := by rw [h1, h2]
theorem col_box {w wr W3 : World} {e : TypeId} {z n : Nat} {v : Value} {xs : List Value} (h : Col w e z v n xs wr) (hb : Below wr.heap.size wr W3) (j : Nat) (u : Value) : Col w e z v n xs (W3.setCell ⟨wr.heap.size, j, none⟩ u) :=
  ⟨(own_below h.1 hb).kept (row := some wr.heap.size) (grown_set W3 ⟨wr.heap.size, j, none⟩ u) (by
    by_cases e : v.ownBlock = none
    · exact .inl e
    · exact .inr fun e2 => absurd (h.1.lt _ e2).2 (Nat.lt_irrefl _)), (bthen h.2 hb h.2.size).setCell (p := ⟨wr.heap.size, j, none⟩) h.2.size u⟩
theorem four_newX (w : World) (v : XD) (T : TypeId) : ∀ (j : Nat) (u : Value), ([.int .i64 v.ln, .int .i64 v.cr, .int .i64 v.mn, .int .i64 v.ck] : List Value)[j]? = some u → (w.alloc (.cells #[.int .i64 v.ln, .int .i64 v.cr, .int .i64 v.mn, .int .i64 v.ck] T)).cell? ((⟨w.heap.size, 0, none⟩ : Addr).add j) = some u := five_newX w v T
/-! ### The crossings of a line -/
set_option maxRecDepth 20000 in
set_option maxHeartbeats 3200000 in
theorem cross_impl (A : Option Addr) (n c : Nat) (L : List XD) (l : Int) (w : World) (hs : SdsX w w.heap.size A n L) (h10 : n ≤ 10) :
    Calls Try.prog 75 #[.slice A n c, .int .i64 l] w fun e w' => ∃ A' c', (crF L l).length ≤ c' ∧ e = .returned (.slice A' (crF L l).length c') ∧ OwnSX w' w.heap.size w'.heap.size A' (crF L l).length (crF L l) ∧ Below w.heap.size w w' := by
  obtain rfl := hs.1
  obtain ⟨i0, hi, hz0, hz1, hz2⟩ := info_parts infoSoundX
  have HI := Lib.hid (And.intro hi (And.intro hz0 (And.intro hz1 hz2)))
  clear hi hz0 hz1 hz2
  have HS := Lib.hid hs
  clear hs
  have HC0 : Hid (Col w 45 4 (.slice (some ⟨w.heap.size, 0, none⟩) 0 0) 0 (cellsSX (crF (L.take 0) l)) (w.alloc (.cells #[] 45))) := Lib.hid (col_start 45 4 (Below.refl _ _))
  go_enter Try.func75, Try.ntmps75
  go_wp2_with fail
  go_loopw [5, 11] (fun s i wr => ∃ (k m : Nat) (v : Value), k ≤ L.length ∧ m ≤ k ∧ i = .int .i64 k ∧ s = v ∧ Hid (m = (crF (L.take k) l).length) ∧ Hid (Col w 45 4 v m (cellsSX (crF (L.take k) l)) wr)) (fun _ i _ => L.length - (intOf i).toNat)
  case atStart => exact ⟨0, 0, _, Nat.zero_le _, Nat.zero_le _, rfl, rfl, Lib.hid rfl, HC0⟩
  case round =>
    obtain ⟨k, m, v, hk, hmk, rfl, rfl, hM, hR⟩ := hrel
    have HSr := Lib.hid (sds_atX HS.out hR.out.2)
    by_cases hlt : k < L.length
    · obtain ⟨b, o, u, rfl, hbl, hL, c0, c1, c2, c3⟩ := HSr.out.2 k hlt
      have hat := xdAt_at hL
      obtain ⟨W3, hW3⟩ : ∃ W, W = wr.alloc (.cells #[.int .i64 u.ln, .int .i64 u.cr, .int .i64 u.mn, .int .i64 u.ck] 45) := ⟨_, rfl⟩
      have HW : Hid (Below wr.heap.size wr W3 ∧ Has W3 wr.heap.size [.int .i64 u.ln, .int .i64 u.cr, .int .i64 u.mn, .int .i64 u.ck]) := by rw [hW3]; exact box1 (Below.refl _ _)
      have HR3 := Lib.hid (hR.out.next HW.out.1)
      have a0 := HW.out.2.at_ 0 _ rfl
      have a1 := HW.out.2.at_ 1 _ rfl
      have a2 := HW.out.2.at_ 2 _ rfl
      have a3 := HW.out.2.at_ 3 _ rfl
      have HE3 := Lib.hid hW3
      clear hW3
      by_cases he : u.ln = l
      · have HV : Hid (crF (L.take (k + 1)) l = crF (L.take k) l ++ [u]) := by unfold Hid; rw [crF_hit hlt (by rw [hat]; exact he), hat]
        have hd1 : (u.ln == l) = true := beq_iff_eq.2 he
        clear hL hbl hat he
        go_upto_region 5 with fail
        rw [← HE3.out]
        clear c0 c1 c2 c3
        go_wp2_with (at_builtin; go_loud (refine wpList_append_own _ rfl _ _ 24 rfl w.heap.size 45 i0 (.agg #[.int .i64 0, .int .i64 0, .int .i64 0, .int .i64 0]) 4 32 Try.underlying24 HI.out.1 HI.out.2.1 HI.out.2.2.1 HI.out.2.2.2 rfl (by decide) _ _ _ rfl (HR3.out.1.alloc _) ⟨W3.heap.size, 0, none⟩ 1 1 [.int .i64 u.ln, .int .i64 u.cr, .int .i64 u.mn, .int .i64 u.ck] rfl rfl (four_newX W3 u _) (by simp [Value.oneCell']) (by unfold maxLen; omega) (by omega) (by have := HR3.out.2.size; simp; omega) ?_; intro v' w5 hown' hgrow _; have HN := Lib.hid (HR3.out.step hown' hgrow); clear hown' hgrow))
        have hn3 : Col w 45 4 v' (m + 1) (cellsSX (crF (L.take k) l) ++ [.int .i64 u.ln, .int .i64 u.cr, .int .i64 u.mn, .int .i64 u.ck]) w5 := HN.out
        rw [← cellsS_snocX, ← HV.out] at hn3
        have HN3 := Lib.hid hn3
        have HM3 : Hid (m + 1 = (crF (L.take (k + 1)) l).length) := by unfold Hid; rw [HV.out, List.length_append, ← hM.out]; rfl
        clear hn3 HN
        go_roundw
        case rel => exact ⟨k + 1, m + 1, _, by omega, by omega, by go_num, rfl, HM3, HN3⟩
        case measure => simp [intOf]; omega
      · have HV : Hid (crF (L.take (k + 1)) l = crF (L.take k) l) := by unfold Hid; rw [crF_miss hlt (by rw [hat]; exact he)]
        have hd1 : (u.ln == l) = false := beq_eq_false_iff_ne.2 he
        clear hL hbl hat he
        go_upto_region 5 with fail
        rw [← HE3.out]
        clear c0 c1 c2 c3
        have hn3 := HR3.out
        rw [← HV.out] at hn3
        have HN3 := Lib.hid hn3
        clear hn3
        have HM3 : Hid (m = (crF (L.take (k + 1)) l).length) := by unfold Hid; rw [HV.out]; exact hM.out
        go_wp2_with fail
        go_roundw
        case rel => exact ⟨k + 1, m, _, by omega, by omega, by go_num, rfl, HM3, HN3⟩
        case measure => simp [intOf]; omega
    · obtain rfl : k = L.length := by omega
      have hR' := hR.out
      have hM' := hM.out
      rw [List.take_of_length_le (Nat.le_refl _)] at hR' hM'
      subst hM'
      obtain ⟨A2, c2, rfl, ho, hb⟩ := ownS_of_colX hR' rfl
      have HP := Lib.hid (And.intro (own_cap hR'.1) (And.intro ho hb))
      clear hR' ho hb
      go_wp2_with fail
      go_ret
      exact ⟨A2, c2, HP.out.1, rfl, HP.out.2.1, HP.out.2.2⟩
/-! ### The law's model: sum and number of a line -/
set_option maxRecDepth 20000 in
set_option maxHeartbeats 1600000 in
theorem df_any (v : XD) (w : World) :
    Calls Try.prog 73 #[.agg #[.int .i64 v.ln, .int .i64 v.cr, .int .i64 v.mn, .int .i64 v.ck]] w fun e w' => (∃ d, e = .returned (.int .i64 d)) ∧ Below w.heap.size w w' := by
  go_enter Try.func73, Try.ntmps73
  go_wp2_with fail
  go_ret
  exact ⟨⟨_, rfl⟩, (Below.refl _ _).alloc (Nat.le_refl _) _⟩
set_option maxRecDepth 20000 in
set_option maxHeartbeats 3200000 in
theorem off_any (A : Option Addr) (n c : Nat) (L : List XD) (l : Int) (w : World) (hs : SdsX w w.heap.size A n L) (hm : n ≤ maxLen) :
    Calls Try.prog 77 #[.slice A n c, .int .i64 l] w fun e w' => (∃ s, e = .returned (.tuple #[.int .i64 s, .int .i64 (loN L l n)])) ∧ Below w.heap.size w w' := by
  obtain rfl := hs.1
  have HS := Lib.hid hs
  clear hs
  unfold maxLen at hm
  go_enter Try.func77, Try.ntmps77
  go_wp2_with fail
  go_loopw [6, 7, 8] (fun q r i wr => ∃ (k m : Nat) (s : Int), k ≤ L.length ∧ m ≤ k ∧ i = .int .i64 k ∧ q = .int .i64 s ∧ r = .int .i64 m ∧ Hid (m = loN L l k) ∧  Hid (Below w.heap.size w wr)) (fun _ _ i _ => L.length - (intOf i).toNat)
  case atStart => exact ⟨0, 0, 0, Nat.zero_le _, Nat.zero_le _, rfl, rfl, rfl, Lib.hid rfl,  Lib.hid (Below.refl _ _)⟩
  case round =>
    obtain ⟨k, m, s, hk, hmk, rfl, rfl, rfl, hN,  hB⟩ := hrel
    by_cases hlt : k < L.length
    · obtain ⟨b, o, v, rfl, hbl, hL, c0, c1, c2, c3⟩ := (sds_atX HS.out hB.out).2 k hlt
      have hat := xdAt_at hL
      by_cases he : v.ln = l
      · have hd1 : (v.ln == l) = true := beq_iff_eq.2 he
        have HN2 : Hid (m + 1 = loN L l (k + 1)) := by unfold Hid; rw [loN, hat, if_pos he, ← hN.out]
        clear hL hat he hbl
        go_wp2_with fail
        refine (df_any v _).mono ?_
        rintro e w2 ⟨⟨d, rfl⟩, hb⟩
        have HB2 := Lib.hid (bthen hB.out hb hB.out.size)
        clear hb c0 c1 c2 c3
        go_wp2_with fail
        go_roundw
        case rel => exact ⟨k + 1, m + 1, _, by omega, by omega, by go_num, rfl, by first | rfl | go_num, HN2,  HB2⟩
        case measure => simp [intOf]; omega
      · have hd1 : (v.ln == l) = false := beq_eq_false_iff_ne.2 he
        have HN2 : Hid (m = loN L l (k + 1)) := by unfold Hid; rw [loN, hat, if_neg he, ← hN.out]
        clear hL hat he hbl
        go_wp2_with fail
        go_roundw
        case rel => exact ⟨k + 1, m, _, by omega, by omega, by go_num, rfl, rfl, HN2,  hB⟩
        case measure => simp [intOf]; omega
    · obtain rfl : k = L.length := by omega
      go_wp2_with fail
      go_ret2
      exact ⟨⟨s, tup2 rfl (congrArg (fun n : Nat => (n : Int)) hN.out)⟩, hB.out⟩
set_option maxRecDepth 20000 in
set_option maxHeartbeats 3200000 in
theorem off_spec (A : Option Addr) (n c : Nat) (L : List XD) (l : Int) (S : Int) (N : Nat) (hS : loS L l L.length = S) (hN : loN L l L.length = N) (hg : Good10 L) (w : World) (hs : SdsX w w.heap.size A n L) (hm : n ≤ maxLen) :
    Calls Try.prog 77 #[.slice A n c, .int .i64 l] w fun e w' => e = .returned (.tuple #[.int .i64 S, .int .i64 N]) ∧ Below w.heap.size w w' := by
  obtain rfl := hs.1
  have HS := Lib.hid hs
  have HG := Lib.hid hg
  have HSN := Lib.hid (And.intro hS hN)
  have h10 := hg.max
  clear hS hN hg
  clear hs
  unfold maxLen at hm
  go_enter Try.func77, Try.ntmps77
  go_wp2_with fail
  go_loopw [6, 7, 8] (fun q r i wr => ∃ (k m : Nat) (s : Int), k ≤ L.length ∧ m ≤ k ∧ i = .int .i64 k ∧ q = .int .i64 s ∧ r = .int .i64 m ∧ Hid (m = loN L l k) ∧ Hid (s = loS L l k) ∧ (-21000 * (m : Int) ≤ s ∧ s ≤ 21000 * (m : Int)) ∧ Hid (Below w.heap.size w wr)) (fun _ _ i _ => L.length - (intOf i).toNat)
  case atStart => exact ⟨0, 0, 0, Nat.zero_le _, Nat.zero_le _, rfl, rfl, rfl, Lib.hid rfl, Lib.hid rfl, by omega, Lib.hid (Below.refl _ _)⟩
  case round =>
    obtain ⟨k, m, s, hk, hmk, rfl, rfl, rfl, hN, hM, ⟨hs1, hs2⟩, hB⟩ := hrel
    by_cases hlt : k < L.length
    · obtain ⟨b, o, v, rfl, hbl, hL, c0, c1, c2, c3⟩ := (sds_atX HS.out hB.out).2 k hlt
      have hat := xdAt_at hL
      by_cases he : v.ln = l
      · have hd1 : (v.ln == l) = true := beq_iff_eq.2 he
        have HN2 : Hid (m + 1 = loN L l (k + 1)) := by unfold Hid; rw [loN, hat, if_pos he, ← hN.out]
        have hxv := HG.out.one k hlt
        rw [hat] at hxv
        obtain ⟨q1, q2, _⟩ := dfI_bd hxv
        have HVV := Lib.hid hxv
        obtain ⟨d, hd⟩ : ∃ d, dfI v = d := ⟨_, rfl⟩
        have HM2 : Hid (s + d = loS L l (k + 1)) := by unfold Hid; rw [loS, hat, if_pos he, ← hM.out, hd]
        rw [hd] at q1 q2
        have HD := Lib.hid hd
        clear hxv hd
        clear hL hat he hbl
        go_wp2_with fail
        refine (df_spec v d HD.out HVV.out _).mono ?_
        rintro e w2 ⟨rfl, hb⟩
        have HB2 := Lib.hid (bthen hB.out hb hB.out.size)
        clear hb c0 c1 c2 c3
        go_wp2_with fail
        go_roundw
        case rel => exact ⟨k + 1, m + 1, _, by omega, by omega, by go_num, rfl, by first | rfl | go_num, HN2, HM2, by omega, HB2⟩
        case measure => simp [intOf]; omega
      · have hd1 : (v.ln == l) = false := beq_eq_false_iff_ne.2 he
        have HN2 : Hid (m = loN L l (k + 1)) := by unfold Hid; rw [loN, hat, if_neg he, ← hN.out]
        have HM2 : Hid (s = loS L l (k + 1)) := by unfold Hid; rw [loS, hat, if_neg he, ← hM.out]
        clear hL hat he hbl
        go_wp2_with fail
        go_roundw
        case rel => exact ⟨k + 1, m, _, by omega, by omega, by go_num, rfl, rfl, HN2, HM2, ⟨hs1, hs2⟩, hB⟩
        case measure => simp [intOf]; omega
    · obtain rfl : k = L.length := by omega
      go_wp2_with fail
      go_ret2
      exact ⟨tup2 (hM.out.trans HSN.out.1) (congrArg (fun n : Nat => (n : Int)) (hN.out.trans HSN.out.2)), hB.out⟩
/-! ### OffsetOfLine -/
def ofK (L : List XD) (l : Int) : Bool := xdsB L && decide (0 < loN L l L.length)
def ofN (L : List XD) (l : Int) : Int := if ofK L l then mfN (crF L l) else 0
def ofD (L : List XD) (l : Int) : Int := if ofK L l then mfD (crF L l) else 0
theorem of_no {L : List XD} {l : Int} (h : ofK L l = false) : ofN L l = 0 ∧ ofD L l = 0 ∧ ofK L l = false := ⟨by unfold ofN; rw [h]; rfl, by unfold ofD; rw [h]; rfl, h⟩
theorem of_yes {L : List XD} {l : Int} (h : ofK L l = true) : ofN L l = mfN (crF L l) ∧ ofD L l = mfD (crF L l) ∧ ofK L l = true := ⟨by unfold ofN; rw [h, if_pos rfl], by unfold ofD; rw [h, if_pos rfl], h⟩
theorem of_1 {L : List XD} {l : Int} (h : xdsB L = false) : ofK L l = false := by unfold ofK; rw [h]; rfl
theorem of_2 {L : List XD} {l : Int} (h : loN L l L.length = 0) : ofK L l = false := by unfold ofK; rw [decide_eq_false (show ¬ 0 < loN L l L.length by omega), Bool.and_false]
theorem of_3 {L : List XD} {l : Int} (h : xdsB L = true) (h0 : 0 < loN L l L.length) : ofK L l = true := by unfold ofK; rw [h, decide_eq_true h0]; rfl
set_option maxRecDepth 20000 in
set_option maxHeartbeats 3200000 in
theorem offset_impl (A : Option Addr) (n c : Nat) (L : List XD) (l : Int) (w : World) (hs : SdsX w w.heap.size A n L) (hm : n ≤ maxLen) (hcap : n ≤ c) :
    Calls Try.prog 33 #[.slice A n c, .int .i64 l] w (Num3X (ofN L l) (ofD L l) (ofK L l) w) := by
  obtain rfl := hs.1
  have HS := Lib.hid hs
  clear hs
  rcases ha : xdsB L with _ | _
  · have HA := Lib.hid ha
    clear ha
    go_enter Try.func33, Try.ntmps33
    go_wp2_with fail
    refine (xds_impl_v _ _ _ L _ HA.out _ HS.out hm hcap).mono ?_
    rintro e w1 ⟨rfl, hb⟩
    have HB1 := Lib.hid hb
    clear hb
    go_wp2_with fail
    go_ret3
    exact num3_no (of_no (of_1 HA.out)) HB1.out
  have HA := Lib.hid ha
  have HG := Lib.hid (good10_of ha)
  have h10 := (good10_of ha).max
  have hl0 := (lo_all L l).2
  clear ha
  by_cases h0 : (crF L l).length = 0
  · have HZ : Hid (ofK L l = false) := Lib.hid (of_2 (by omega))
    have hz : ((((crF L l).length : Nat) : Int) == 0) = true := beq_iff_eq.2 (by omega)
    clear hl0
    go_enter Try.func33, Try.ntmps33
    go_wp2_with fail
    refine (xds_impl_v _ _ _ L _ HA.out _ HS.out hm hcap).mono ?_
    rintro e w1 ⟨rfl, hb⟩
    have HB1 := Lib.hid hb
    have HS1 := Lib.hid (sds_atX HS.out hb)
    clear hb
    go_wp2_with fail
    refine (cross_impl _ _ _ L l _ HS1.out h10).mono ?_
    rintro e w2 ⟨A2, c2, hc2, rfl, ho, hb⟩
    have HB2 := Lib.hid (bthen HB1.out hb HB1.out.size)
    clear hb ho
    go_wp2_with fail
    go_ret3
    exact num3_no (of_no HZ.out) HB2.out
  have hz : ((((crF L l).length : Nat) : Int) == 0) = false := beq_eq_false_iff_ne.2 (by omega)
  have hpos : 0 < (crF L l).length := by omega
  have hcl : (crF L l).length ≤ 10 := (smX_line HG.out l).max
  have hp := of_yes (of_3 HA.out (show 0 < loN L l L.length by omega))
  obtain ⟨x, hx⟩ : ∃ x, mfN (crF L l) = x := ⟨_, rfl⟩
  obtain ⟨y, hy⟩ : ∃ y, mfD (crF L l) = y := ⟨_, rfl⟩
  have HX := Lib.hid hx
  have HY := Lib.hid hy
  rw [hx, hy] at hp
  have HP := Lib.hid hp
  clear hx hy hp hl0 h0
  go_enter Try.func33, Try.ntmps33
  go_wp2_with fail
  refine (xds_impl_v _ _ _ L _ HA.out _ HS.out hm hcap).mono ?_
  rintro e w1 ⟨rfl, hb⟩
  have HB1 := Lib.hid hb
  have HS1 := Lib.hid (sds_atX HS.out hb)
  clear hb
  go_wp2_with fail
  refine (cross_impl _ _ _ L l _ HS1.out h10).mono ?_
  rintro e W1 ⟨A2, c2, hc2, rfl, ho, hb⟩
  have HB2 := Lib.hid (bthen HB1.out hb HB1.out.size)
  have HO := Lib.hid ho.sds
  clear hb ho
  go_wp2_with fail
  refine (meanOf_impl _ _ _ (crF L l) x y HX.out HY.out _ HO.out (smX_line HG.out l) hpos).mono ?_
  rintro e W2 ⟨rfl, hb⟩
  have HB3 := Lib.hid (bthen HB2.out hb HB2.out.size)
  clear hb
  obtain ⟨X, hX⟩ : ∃ W, W = W2.alloc (.cells #[.int .i64 x, .int .i64 y] 80) := ⟨_, rfl⟩
  have HX9 : Hid (Below W2.heap.size W2 X ∧ Has X W2.heap.size [.int .i64 x, .int .i64 y]) := by rw [hX]; exact box1 (Below.refl _ _)
  have HE := Lib.hid hX
  have HB4 := Lib.hid (bthen HB3.out HX9.out.1 HB3.out.size)
  clear hX
  go_upto_region 7 with fail
  rw [← HE.out]
  clear HE
  have e0 := HX9.out.2.at_ 0 _ rfl
  have e1 := HX9.out.2.at_ 1 _ rfl
  have lc0 := lcell (e0)
  have lc1 := lcell (e1)
  refine region_later (W := X) (by kernel_rfl) (by kernel_rfl) (Below.refl _ _) ?_
  repeat (go_big_quiet_step (fail))
  refine wpQuiet_nil ?_
  intro W5 hW1
  have HL : Hid (Below X.heap.size X W5) := by obtain ⟨x, rfl⟩ := hW1; exact Lib.hid x.below
  clear hW1 lc0 lc1
  have HB5 := Lib.hid (bthen HB4.out HL.out HB4.out.size)
  go_wp2_with fail
  go_ret3
  exact num3_is HP.out HB5.out
set_option maxRecDepth 20000 in
set_option maxHeartbeats 3200000 in
theorem offset_spec (A : Option Addr) (n c : Nat) (L : List XD) (l : Int) (w : World) (hs : SdsX w w.heap.size A n L) (hm : n ≤ maxLen) :
    Calls Try.prog 34 #[.slice A n c, .int .i64 l] w (Num3X (ofN L l) (ofD L l) (ofK L l) w) := by
  obtain rfl := hs.1
  have HS := Lib.hid hs
  clear hs
  rcases ha : xdsB L with _ | _
  · have HA := Lib.hid ha
    have hlo := loN_le L l L.length
    have hm2 : L.length ≤ 9223372036854775807 := hm
    clear ha
    go_enter Try.func34, Try.ntmps34
    go_wp2_with fail
    refine (off_any _ _ _ L l _ HS.out hm).mono ?_
    rintro e w1 ⟨⟨s, rfl⟩, hb⟩
    have HB1 := Lib.hid hb
    have HS1 := Lib.hid (sds_atX HS.out hb)
    clear hb
    go_wp2_with fail
    refine (xgood_spec_v _ _ _ L _ HA.out _ HS1.out hm).mono ?_
    rintro e w2 ⟨rfl, hb⟩
    have HB2 := Lib.hid (bthen HB1.out hb HB1.out.size)
    clear hb
    go_wp2_with fail
    go_ret3
    exact num3_no (of_no (of_1 HA.out)) HB2.out
  have HA := Lib.hid ha
  have HG := Lib.hid (good10_of ha)
  have h10 := (good10_of ha).max
  obtain ⟨S, hS⟩ : ∃ S, loS L l L.length = S := ⟨_, rfl⟩
  obtain ⟨N, hN⟩ : ∃ N, loN L l L.length = N := ⟨_, rfl⟩
  have hbd := loS_bd (good10_of ha) l L.length (Nat.le_refl _)
  have hle := loN_le L l L.length
  rw [hS, hN] at hbd
  rw [hN] at hle
  obtain ⟨hb1, hb2⟩ := hbd
  have HSN := Lib.hid (And.intro hS hN)
  have hall := lo_all L l
  rw [hS, hN] at hall
  have HAL := Lib.hid hall
  clear ha hS hN hall
  by_cases h0 : N = 0
  · have HZ : Hid (ofK L l = false) := Lib.hid (of_2 (by rw [HSN.out.2]; exact h0))
    subst h0
    go_enter Try.func34, Try.ntmps34
    go_wp2_with fail
    refine (off_spec _ _ _ L l S 0 HSN.out.1 HSN.out.2 HG.out _ HS.out hm).mono ?_
    rintro e w1 ⟨rfl, hb⟩
    have HB1 := Lib.hid hb
    have HS1 := Lib.hid (sds_atX HS.out hb)
    clear hb
    go_wp2_with fail
    refine (xgood_spec_v _ _ _ L _ HA.out _ HS1.out hm).mono ?_
    rintro e w2 ⟨rfl, hb⟩
    have HB2 := Lib.hid (bthen HB1.out hb HB1.out.size)
    clear hb
    go_wp2_with fail
    go_ret3
    exact num3_no (of_no HZ.out) HB2.out
  have hz : ((N : Int) == 0) = false := beq_eq_false_iff_ne.2 (by omega)
  have hp := of_yes (of_3 HA.out (show 0 < loN L l L.length by rw [HSN.out.2]; omega))
  have HP : Hid (ofN L l = S.tdiv (gd S N : Nat) ∧ ofD L l = (N : Int) / (gd S N : Nat) ∧ ofK L l = true) := by
    have h1 := HAL.out
    rw [h1.1, h1.2]
    exact hp
  clear hp
  go_enter Try.func34, Try.ntmps34
  go_wp2_with fail
  refine (off_spec _ _ _ L l S N HSN.out.1 HSN.out.2 HG.out _ HS.out hm).mono ?_
  rintro e w1 ⟨rfl, hb⟩
  have HB1 := Lib.hid hb
  have HS1 := Lib.hid (sds_atX HS.out hb)
  clear hb
  go_wp2_with fail
  refine (xgood_spec_v _ _ _ L _ HA.out _ HS1.out hm).mono ?_
  rintro e w2 ⟨rfl, hb⟩
  have HB2 := Lib.hid (bthen HB1.out hb HB1.out.size)
  clear hb
  go_wp2_with fail
  refine (reduce_spec S N _ (by omega) (by omega) (by omega) (by omega)).mono ?_
  rintro e w3 ⟨rfl, hb⟩
  have HB3 := Lib.hid (bthen HB2.out hb HB2.out.size)
  clear hb
  go_wp2_with fail
  go_ret3
  exact num3_is HP.out HB3.out
/-! ### CorrectLine -/
def crXV (l : Int) (f : Int → Int) (v : XD) : XD := if v.ln = l then ⟨v.ln, v.cr, f v.mn, v.ck⟩ else v
def crX (L : List XD) (l : Int) (f : Int → Int) : List XD := L.map (crXV l f)
theorem crX_len (L : List XD) (l : Int) (f : Int → Int) : (crX L l f).length = L.length := List.length_map _
theorem crX_take {L : List XD} {k : Nat} {v : XD} (l : Int) (f : Int → Int) (h : L[k]? = some v) : crX (L.take (k + 1)) l f = crX (L.take k) l f ++ [crXV l f v] := by
  obtain ⟨hk, rfl⟩ := List.getElem?_eq_some_iff.1 h
  unfold crX
  rw [List.take_succ_eq_append_getElem hk, List.map_append]
  rfl
theorem crX_hit {L : List XD} {k : Nat} {v : XD} {l : Int} {f : Int → Int} (h : L[k]? = some v) (he : v.ln = l) : crX (L.take (k + 1)) l f = crX (L.take k) l f ++ [⟨v.ln, v.cr, f v.mn, v.ck⟩] := by
  rw [crX_take l f h]
  unfold crXV
  rw [if_pos he]
theorem crX_miss {L : List XD} {k : Nat} {v : XD} {l : Int} {f : Int → Int} (h : L[k]? = some v) (he : ¬ v.ln = l) : crX (L.take (k + 1)) l f = crX (L.take k) l f ++ [v] := by
  rw [crX_take l f h]
  unfold crXV
  rw [if_neg he]
theorem crX_all {L : List XD} {l : Int} {f : Int → Int} : crX (L.take L.length) l f = crX L l f := by rw [List.take_length]
def ccG (L : List XD) (l : Int) : Bool := xdsB L && decide (0 < loN L l L.length)
def ccK (L : List XD) (l b : Int) : Bool := ccG L l && inB b (-30000) 30000 && xdsB (crL L l b)
def ccR (L : List XD) (l b : Int) : List XD := if ccK L l b then crL L l b else []
def CcPost (L : List XD) (l b : Int) (w : World) (e : Ending) (w' : World) : Prop :=
  ∃ A c, (ccR L l b).length ≤ c ∧ e = .returned (.tuple #[.slice A (ccR L l b).length c, .bool (ccK L l b)]) ∧ OwnSX w' w.heap.size w'.heap.size A (ccR L l b).length (ccR L l b) ∧ Below w.heap.size w w'
theorem cc_no {L : List XD} {l b : Int} {A : Option Addr} {c : Nat} {w w' : World} (hk : ccK L l b = false) (hb : Below w.heap.size w w') : CcPost L l b w (.returned (.tuple #[.slice A 0 c, .bool false])) w' := by
  have hR : ccR L l b = [] := by unfold ccR; rw [hk]; rfl
  exact ⟨A, c, by rw [hR]; exact Nat.zero_le _, by rw [hk, hR]; rfl, by rw [hR]; exact ⟨rfl, .inl rfl⟩, hb⟩
theorem cc_yes {L : List XD} {l b : Int} {A : Option Addr} {c : Nat} {w w' : World} (hk : ccK L l b = true) (hc : L.length ≤ c) (ho : OwnSX w' w.heap.size w'.heap.size A L.length (crL L l b)) (hb : Below w.heap.size w w') : CcPost L l b w (.returned (.tuple #[.slice A L.length c, .bool true])) w' := by
  have hR : ccR L l b = crL L l b := by unfold ccR; rw [hk, if_pos rfl]
  have hl : (ccR L l b).length = L.length := by rw [hR, crL_len]
  exact ⟨A, c, by rw [hl]; exact hc, by rw [hk, hl], by rw [hl, hR]; exact ho, hb⟩
theorem cc_1 {L : List XD} {l b : Int} (h : xdsB L = false) : ccK L l b = false := by unfold ccK ccG; rw [h]; rfl
theorem cc_2 {L : List XD} {l b : Int} (h : loN L l L.length = 0) : ccK L l b = false := by unfold ccK ccG; rw [decide_eq_false (show ¬ 0 < loN L l L.length by omega)]; simp
theorem cc_3 {L : List XD} {l b : Int} (h : inB b (-30000) 30000 = false) : ccK L l b = false := by unfold ccK; rw [h]; simp
theorem cc_4 {L : List XD} {l b : Int} (h1 : xdsB L = true) (h2 : 0 < loN L l L.length) (h3 : inB b (-30000) 30000 = true) : ccK L l b = xdsB (crL L l b) := by unfold ccK ccG; rw [h1, decide_eq_true h2, h3]; rfl
theorem ownS_upX {w w1 w2 : World} {A : Option Addr} {n : Nat} {L : List XD} (h : OwnSX w1 w.heap.size w1.heap.size A n L) (hb : Below w1.heap.size w1 w2) : OwnSX w2 w.heap.size w2.heap.size A n L := (h.on hb (Nat.le_refl _)).wide (Nat.le_refl _) hb.size
/-- The correction as the program makes it: with an overflow. -/
def crW (L : List XD) (l b : Int) : List XD := crX L l fun m => wrap64 (m + b)
theorem crW_in {L : List XD} {l b : Int} (hg : Good10 L) (h : -30000 ≤ b ∧ b ≤ 30000) : crW L l b = crL L l b := by
  unfold crW crX crL
  refine List.map_congr_left fun v hv => ?_
  obtain ⟨_, _, h1, _⟩ := xdB_parts (hg.mem hv)
  unfold crXV crV
  split
  · have e : wrap64 (v.mn + b) = v.mn + b := by unfold wrap64; omega
    simp only [e]
  · rfl
theorem crW_out {L : List XD} {l b : Int} (hg : Good10 L) (h0 : 0 < loN L l L.length) (h1 : -9223372036854775808 ≤ b) (h2 : b ≤ 9223372036854775807) (h : inB b (-30000) 30000 = false) : xdsB (crW L l b) = false := by
  obtain ⟨j, hj, he⟩ := loN_some h0
  obtain ⟨_, _, hm, _⟩ := xdB_parts (hg.one j hj)
  have hb := inB_no h
  have hat : (crW L l b)[j]? = some ⟨(xdAt L j).ln, (xdAt L j).cr, wrap64 ((xdAt L j).mn + b), (xdAt L j).ck⟩ := by
    unfold crW crX
    rw [List.getElem?_map, xdAt_get hj]
    show some (crXV l _ (xdAt L j)) = _
    unfold crXV
    rw [if_pos he]
  refine xds_bad (k := j) (by unfold crW; rw [crX_len]; exact hj) (xstep_invalid hat ?_)
  have hq : inB (wrap64 ((xdAt L j).mn + b)) (-1000) 20000 = false := decide_eq_false (by unfold wrap64; omega)
  unfold xdB
  rw [hq]
  simp
theorem cc_impl {L : List XD} {l b : Int} (h1 : xdsB L = true) (h2 : 0 < loN L l L.length) (h3 : -9223372036854775808 ≤ b) (h4 : b ≤ 9223372036854775807) : xdsB (crW L l b) = ccK L l b := by
  rcases hi : inB b (-30000) 30000 with _ | _
  · rw [crW_out (good10_of h1) h2 h3 h4 hi, cc_3 hi]
  · rw [crW_in (good10_of h1) (inB_yes hi), cc_4 h1 h2 hi]
theorem cc_same {L : List XD} {l b : Int} (h1 : xdsB L = true) (h : ccK L l b = true) : crW L l b = crL L l b := by
  rcases hi : inB b (-30000) 30000 with _ | _
  · rw [cc_3 hi] at h; cases h
  · exact crW_in (good10_of h1) (inB_yes hi)
set_option maxRecDepth 20000 in
set_option maxHeartbeats 6400000 in
theorem correct_impl (A : Option Addr) (n c : Nat) (L : List XD) (l b : Int) (w : World) (hs : SdsX w w.heap.size A n L) (hm : n ≤ maxLen) (hcap : n ≤ c) (hb1 : -9223372036854775808 ≤ b) (hb2 : b ≤ 9223372036854775807) :
    Calls Try.prog 35 #[.slice A n c, .int .i64 l, .int .i64 b] w (CcPost L l b w) := by
  obtain rfl := hs.1
  obtain ⟨i0, hi, hz0, hz1, hz2⟩ := info_parts infoSoundX
  have HI := Lib.hid (And.intro hi (And.intro hz0 (And.intro hz1 hz2)))
  clear hi hz0 hz1 hz2
  have HS := Lib.hid hs
  have HBB := Lib.hid (And.intro hb1 hb2)
  clear hs
  rcases ha : xdsB L with _ | _
  · have HA := Lib.hid ha
    clear ha
    go_enter Try.func35, Try.ntmps35
    go_wp2_with fail
    refine (xds_impl_v _ _ _ L _ HA.out _ HS.out hm hcap).mono ?_
    rintro e w1 ⟨rfl, hb⟩
    have HB1 := Lib.hid hb
    clear hb
    go_wp2_with fail
    go_ret2
    exact cc_no (cc_1 HA.out) (HB1.out.alloc HB1.out.size _)
  have HA := Lib.hid ha
  have HG := Lib.hid (good10_of ha)
  have h10 := (good10_of ha).max
  have hl0 := (lo_all L l).2
  have hcl : (crF L l).length ≤ 10 := (smX_line (good10_of ha) l).max
  clear ha
  by_cases h0 : (crF L l).length = 0
  · have HZ : Hid (ccK L l b = false) := Lib.hid (cc_2 (by omega))
    have hz : ((((crF L l).length : Nat) : Int) == 0) = true := beq_iff_eq.2 (by omega)
    clear hl0
    go_enter Try.func35, Try.ntmps35
    go_wp2_with fail
    refine (xds_impl_v _ _ _ L _ HA.out _ HS.out hm hcap).mono ?_
    rintro e w1 ⟨rfl, hb⟩
    have HB1 := Lib.hid hb
    have HS1 := Lib.hid (sds_atX HS.out hb)
    clear hb
    go_wp2_with fail
    refine (cross_impl _ _ _ L l _ HS1.out h10).mono ?_
    rintro e w2 ⟨A2, c2, hc2, rfl, ho, hb⟩
    have HB2 := Lib.hid (bthen HB1.out hb HB1.out.size)
    clear hb ho
    go_wp2_with fail
    go_ret2
    exact cc_no HZ.out (HB2.out.alloc HB2.out.size _)
  have hz : ((((crF L l).length : Nat) : Int) == 0) = false := beq_eq_false_iff_ne.2 (by omega)
  have HK := Lib.hid (cc_impl HA.out (show 0 < loN L l L.length by omega) HBB.out.1 HBB.out.2)
  clear hl0 hb1 hb2
  go_enter Try.func35, Try.ntmps35
  go_wp2_with fail
  refine (xds_impl_v _ _ _ L _ HA.out _ HS.out hm hcap).mono ?_
  rintro e w1 ⟨rfl, hb⟩
  have HB1 := Lib.hid hb
  have HS1 := Lib.hid (sds_atX HS.out hb)
  clear hb
  go_wp2_with fail
  refine (cross_impl _ _ _ L l _ HS1.out h10).mono ?_
  rintro e w2 ⟨A2, c2, hc2, rfl, ho, hb⟩
  have HC0 : Hid (Col w 45 4 (.slice (some ⟨w2.heap.size, 0, none⟩) 0 0) 0 (cellsSX (crX (L.take 0) l (fun m => wrap64 (m + b)))) (w2.alloc (.cells #[] 45))) := Lib.hid (col_start 45 4 (bthen HB1.out hb HB1.out.size))
  clear hb ho
  go_wp2_with fail
  go_loopw [8, 25] (fun s i wr => ∃ (k : Nat) (v : Value), k ≤ L.length ∧ i = .int .i64 k ∧ s = v ∧ Hid (Col w 45 4 v k (cellsSX (crX (L.take k) l (fun m => wrap64 (m + b)))) wr)) (fun _ i _ => L.length - (intOf i).toNat)
  case atStart => exact ⟨0, _, Nat.zero_le _, rfl, rfl, HC0⟩
  case round =>
    obtain ⟨k, v, hk, rfl, rfl, hR⟩ := hrel
    have HSr := Lib.hid (sds_atX HS.out hR.out.2)
    by_cases hlt : k < L.length
    · obtain ⟨b', o', u, rfl, hbl, hL, c0, c1, c2', c3⟩ := HSr.out.2 k hlt
      have hu := HG.out.one k hlt
      rw [xdAt_at hL] at hu
      obtain ⟨_, _, ⟨u1, u2⟩, _⟩ := xdB_parts hu
      obtain ⟨W3, hW3⟩ : ∃ W, W = wr.alloc (.cells #[.int .i64 u.ln, .int .i64 u.cr, .int .i64 u.mn, .int .i64 u.ck] 45) := ⟨_, rfl⟩
      have HW : Hid (Below wr.heap.size wr W3 ∧ Has W3 wr.heap.size [.int .i64 u.ln, .int .i64 u.cr, .int .i64 u.mn, .int .i64 u.ck]) := by rw [hW3]; exact box1 (Below.refl _ _)
      have HR3 := Lib.hid (hR.out.next HW.out.1)
      have HGE : Hid (wr.heap.size < W3.heap.size) := by rw [hW3]; exact Lib.hid (by simp)
      have a0 := HW.out.2.at_ 0 _ rfl
      have a1 := HW.out.2.at_ 1 _ rfl
      have a2 := HW.out.2.at_ 2 _ rfl
      have a3 := HW.out.2.at_ 3 _ rfl
      have f2 := HW.out.2.free 2
      have HE3 := Lib.hid hW3
      clear hW3
      by_cases he : u.ln = l
      · have HV := Lib.hid (crX_hit (f := (fun m => wrap64 (m + b))) hL he)
        have hd1 : (u.ln == l) = true := beq_iff_eq.2 he
        clear hL hbl hu he
        go_upto_region 7 with fail
        rw [← HE3.out]
        clear c0 c1 c2' c3
        go_upto_region 9 with fail
        obtain ⟨W4, hW4⟩ : ∃ W, W = W3.setCell ⟨wr.heap.size, 2, none⟩ (.int .i64 ((wrap64 (u.mn + b)))) := ⟨_, rfl⟩
        have HX4 : Hid (Has W4 wr.heap.size [.int .i64 u.ln, .int .i64 u.cr, .int .i64 (wrap64 (u.mn + b)), .int .i64 u.ck]) := by rw [hW4]; exact Lib.hid (HW.out.2.set 2 (.int .i64 ((wrap64 (u.mn + b)))))
        have hr4 := col_box hR.out HW.out.1 2 (.int .i64 ((wrap64 (u.mn + b))))
        rw [← hW4] at hr4
        have HR4 := Lib.hid hr4
        clear hr4
        rw [← hW4]
        clear hW4 a0 a1 a2 a3 f2
        have a0 := HX4.out.at_ 0 _ rfl
        have a1 := HX4.out.at_ 1 _ rfl
        have a2 := HX4.out.at_ 2 _ rfl
        have a3 := HX4.out.at_ 3 _ rfl
        go_wp2_with (at_builtin; go_loud (refine wpList_append_own _ rfl _ _ 24 rfl w.heap.size 45 i0 (.agg #[.int .i64 0, .int .i64 0, .int .i64 0, .int .i64 0]) 4 32 Try.underlying24 HI.out.1 HI.out.2.1 HI.out.2.2.1 HI.out.2.2.2 rfl (by decide) _ _ _ rfl (HR4.out.1.alloc _) ⟨W4.heap.size, 0, none⟩ 1 1 [.int .i64 u.ln, .int .i64 u.cr, .int .i64 (wrap64 (u.mn + b)), .int .i64 u.ck] rfl rfl (four_newX W4 ⟨u.ln, u.cr, (wrap64 (u.mn + b)), u.ck⟩ _) (by simp [Value.oneCell']) (by unfold maxLen; omega) (by omega) (by have := HR4.out.2.size; simp; omega) ?_; intro v' w5 hown' hgrow _; have HN := Lib.hid (HR4.out.step hown' hgrow); clear hown' hgrow))
        have hn3 : Col w 45 4 v' (k + 1) (cellsSX (crX (L.take k) l (fun m => wrap64 (m + b))) ++ [.int .i64 u.ln, .int .i64 u.cr, .int .i64 (wrap64 (u.mn + b)), .int .i64 u.ck]) w5 := HN.out
        rw [← cellsS_snocX (crX (L.take k) l (fun m => wrap64 (m + b))) ⟨u.ln, u.cr, (wrap64 (u.mn + b)), u.ck⟩, ← HV.out] at hn3
        have HN3 := Lib.hid hn3
        clear hn3 HN
        go_roundw
        case rel => exact ⟨k + 1, _, by omega, by go_num, rfl, HN3⟩
        case measure => simp [intOf]; omega
      · have HV := Lib.hid (crX_miss (f := (fun m => wrap64 (m + b))) hL he)
        have hd1 : (u.ln == l) = false := beq_eq_false_iff_ne.2 he
        have HR4 := HR3
        clear hL hbl hu he
        go_upto_region 7 with fail
        rw [← HE3.out]
        clear c0 c1 c2' c3
        go_wp2_with (at_builtin; go_loud (refine wpList_append_own _ rfl _ _ 24 rfl w.heap.size 45 i0 (.agg #[.int .i64 0, .int .i64 0, .int .i64 0, .int .i64 0]) 4 32 Try.underlying24 HI.out.1 HI.out.2.1 HI.out.2.2.1 HI.out.2.2.2 rfl (by decide) _ _ _ rfl (HR4.out.1.alloc _) ⟨W3.heap.size, 0, none⟩ 1 1 [.int .i64 u.ln, .int .i64 u.cr, .int .i64 u.mn, .int .i64 u.ck] rfl rfl (four_newX W3 u _) (by simp [Value.oneCell']) (by unfold maxLen; omega) (by omega) (by have := HR4.out.2.size; simp; omega) ?_; intro v' w5 hown' hgrow _; have HN := Lib.hid (HR4.out.step hown' hgrow); clear hown' hgrow))
        have hn3 : Col w 45 4 v' (k + 1) (cellsSX (crX (L.take k) l (fun m => wrap64 (m + b))) ++ [.int .i64 u.ln, .int .i64 u.cr, .int .i64 u.mn, .int .i64 u.ck]) w5 := HN.out
        rw [← cellsS_snocX, ← HV.out] at hn3
        have HN3 := Lib.hid hn3
        clear hn3 HN
        go_roundw
        case rel => exact ⟨k + 1, _, by omega, by go_num, rfl, HN3⟩
        case measure => simp [intOf]; omega
    · obtain rfl : k = L.length := by omega
      have hR' := hR.out
      rw [crX_all] at hR'
      obtain ⟨A9, c9, rfl, ho, hb⟩ := ownS_of_colX hR' (crX_len L l _)
      have HCP := Lib.hid (own_cap hR'.1)
      have HO := Lib.hid ho
      have HB := Lib.hid hb
      have HY := Lib.hid ho.sds
      clear hR' ho hb
      rcases hk2 : xdsB (crW L l b) with _ | _
      · have HK2 := Lib.hid hk2
        have HKF : Hid (ccK L l b = false) := Lib.hid (HK.out.symm.trans hk2)
        clear hk2
        go_wp2_with fail
        refine (xds_impl_v _ _ _ (crW L l b) _ HK2.out _ HY.out hm HCP.out).mono ?_
        rintro e w4 ⟨rfl, hb⟩
        have HB2 := Lib.hid (bthen HB.out hb HB.out.size)
        clear hb
        go_wp2_with fail
        go_ret2
        exact cc_no HKF.out (HB2.out.alloc HB2.out.size _)
      · have HK2 := Lib.hid hk2
        have HKT : Hid (ccK L l b = true) := Lib.hid (HK.out.symm.trans hk2)
        clear hk2
        go_wp2_with fail
        refine (xds_impl_v _ _ _ (crW L l b) _ HK2.out _ HY.out hm HCP.out).mono ?_
        rintro e w4 ⟨rfl, hb⟩
        have HB2 := Lib.hid (bthen HB.out hb HB.out.size)
        have HO2 := Lib.hid (ownS_upX HO.out hb)
        clear hb
        go_wp2_with fail
        go_ret2
        exact cc_yes HKT.out HCP.out (by have := HO2.out; unfold crW at this; exact (cc_same HA.out HKT.out) ▸ this) HB2.out
set_option maxRecDepth 20000 in
set_option maxHeartbeats 6400000 in
theorem correct_spec (A : Option Addr) (n c : Nat) (L : List XD) (l b : Int) (w : World) (hs : SdsX w w.heap.size A n L) (hm : n ≤ maxLen) :
    Calls Try.prog 40 #[.slice A n c, .int .i64 l, .int .i64 b] w (CcPost L l b w) := by
  obtain rfl := hs.1
  obtain ⟨i0, hi, hz0, hz1, hz2⟩ := info_parts infoSoundX
  have HI := Lib.hid (And.intro hi (And.intro hz0 (And.intro hz1 hz2)))
  clear hi hz0 hz1 hz2
  have HC0 : Hid (Col w 45 4 (.slice (some ⟨w.heap.size, 0, none⟩) 0 0) 0 (cellsSX (crX (L.take 0) l (fun m => m + b))) (w.alloc (.cells #[] 45))) := Lib.hid (col_start 45 4 (Below.refl _ _))
  have HS := Lib.hid (sds_atX hs HC0.out.2)
  have HSS := Lib.hid hs
  have hlo := loN_le L l L.length
  have hm2 : L.length ≤ 9223372036854775807 := hm
  clear hs
  rcases ha : xdsB L with _ | _
  · have HA := Lib.hid ha
    clear ha
    go_enter Try.func40, Try.ntmps40
    go_wp2_with fail
    refine (off_any _ _ _ L l _ HS.out hm).mono ?_
    rintro e w1 ⟨⟨s, rfl⟩, hb⟩
    have HC1 := Lib.hid (HC0.out.next hb)
    have HS1 := Lib.hid (sds_atX HS.out hb)
    clear hb
    go_wp2_with fail
    refine (xgood_spec_v _ _ _ L _ HA.out _ HS1.out hm).mono ?_
    rintro e w2 ⟨rfl, hb⟩
    have HC2 := Lib.hid (HC1.out.next hb)
    clear hb
    go_wp2_with fail
    go_ret2
    exact cc_no (cc_1 HA.out) HC2.out.2
  have HA := Lib.hid ha
  have HG := Lib.hid (good10_of ha)
  have h10 := (good10_of ha).max
  obtain ⟨N, hN⟩ : ∃ N, loN L l L.length = N := ⟨_, rfl⟩
  have HN := Lib.hid hN
  rw [hN] at hlo
  clear ha hN
  by_cases h0 : N = 0
  · subst h0
    go_enter Try.func40, Try.ntmps40
    go_wp2_with fail
    refine (off_any _ _ _ L l _ HS.out hm).mono ?_
    rintro e w1 ⟨⟨s, rfl⟩, hb⟩
    rw [HN.out]
    have HC1 := Lib.hid (HC0.out.next hb)
    have HS1 := Lib.hid (sds_atX HS.out hb)
    clear hb
    go_wp2_with fail
    refine (xgood_spec_v _ _ _ L _ HA.out _ HS1.out hm).mono ?_
    rintro e w2 ⟨rfl, hb⟩
    have HC2 := Lib.hid (HC1.out.next hb)
    clear hb
    go_wp2_with fail
    go_ret2
    exact cc_no (cc_2 HN.out) HC2.out.2
  have hz : ((N : Int) == 0) = false := beq_eq_false_iff_ne.2 (by omega)
  rcases h3 : inB b (-30000) 30000 with _ | _
  · have H3 := Lib.hid h3
    clear h3
    go_enter Try.func40, Try.ntmps40
    go_wp2_with fail
    refine (off_any _ _ _ L l _ HS.out hm).mono ?_
    rintro e w1 ⟨⟨s, rfl⟩, hb⟩
    rw [HN.out]
    have HC1 := Lib.hid (HC0.out.next hb)
    have HS1 := Lib.hid (sds_atX HS.out hb)
    clear hb
    go_wp2_with fail
    refine (xgood_spec_v _ _ _ L _ HA.out _ HS1.out hm).mono ?_
    rintro e w2 ⟨rfl, hb⟩
    have HC2 := Lib.hid (HC1.out.next hb)
    clear hb
    go_wp2_with fail
    refine (l1In_v _ _ _ _ H3.out _).mono ?_
    rintro e w' ⟨rfl, rfl⟩
    go_wp2_with fail
    go_ret2
    exact cc_no (cc_3 H3.out) HC2.out.2
  have H3 := Lib.hid h3
  obtain ⟨x1, x2⟩ := inB_yes h3
  have HK := Lib.hid (cc_4 (l := l) (b := b) HA.out (show 0 < loN L l L.length by rw [HN.out]; omega) h3).symm
  clear h3
  go_enter Try.func40, Try.ntmps40
  go_wp2_with fail
  refine (off_any _ _ _ L l _ HS.out hm).mono ?_
  rintro e w1 ⟨⟨s, rfl⟩, hb⟩
  rw [HN.out]
  have HC1 := Lib.hid (HC0.out.next hb)
  have HS1 := Lib.hid (sds_atX HS.out hb)
  clear hb
  go_wp2_with fail
  refine (xgood_spec_v _ _ _ L _ HA.out _ HS1.out hm).mono ?_
  rintro e w2 ⟨rfl, hb⟩
  have HC2 := Lib.hid (HC1.out.next hb)
  clear hb
  go_wp2_with fail
  refine (l1In_v _ _ _ _ H3.out _).mono ?_
  rintro e w' ⟨rfl, rfl⟩
  go_wp2_with fail
  go_loopw [8, 11] (fun s i wr => ∃ (k : Nat) (v : Value), k ≤ L.length ∧ i = .int .i64 k ∧ s = v ∧ Hid (Col w 45 4 v k (cellsSX (crX (L.take k) l (fun m => m + b))) wr)) (fun _ i _ => L.length - (intOf i).toNat)
  case atStart => exact ⟨0, _, Nat.zero_le _, rfl, rfl, HC2⟩
  case round =>
    obtain ⟨k, v, hk, rfl, rfl, hR⟩ := hrel
    have HSr := Lib.hid (sds_atX HSS.out hR.out.2)
    by_cases hlt : k < L.length
    · obtain ⟨b', o', u, rfl, hbl, hL, c0, c1, c2', c3⟩ := HSr.out.2 k hlt
      have hu := HG.out.one k hlt
      rw [xdAt_at hL] at hu
      obtain ⟨_, _, ⟨u1, u2⟩, _⟩ := xdB_parts hu
      obtain ⟨W3, hW3⟩ : ∃ W, W = wr.alloc (.cells #[.int .i64 u.ln, .int .i64 u.cr, .int .i64 u.mn, .int .i64 u.ck] 45) := ⟨_, rfl⟩
      have HW : Hid (Below wr.heap.size wr W3 ∧ Has W3 wr.heap.size [.int .i64 u.ln, .int .i64 u.cr, .int .i64 u.mn, .int .i64 u.ck]) := by rw [hW3]; exact box1 (Below.refl _ _)
      have HR3 := Lib.hid (hR.out.next HW.out.1)
      have HGE : Hid (wr.heap.size < W3.heap.size) := by rw [hW3]; exact Lib.hid (by simp)
      have a0 := HW.out.2.at_ 0 _ rfl
      have a1 := HW.out.2.at_ 1 _ rfl
      have a2 := HW.out.2.at_ 2 _ rfl
      have a3 := HW.out.2.at_ 3 _ rfl
      have f2 := HW.out.2.free 2
      have HE3 := Lib.hid hW3
      clear hW3
      by_cases he : u.ln = l
      · have HV := Lib.hid (crX_hit (f := (fun m => m + b)) hL he)
        have hd1 : (u.ln == l) = true := beq_iff_eq.2 he
        clear hL hbl hu he
        go_upto_region 9 with fail
        rw [← HE3.out]
        clear c0 c1 c2' c3
        go_upto_region 11 with fail
        obtain ⟨W4, hW4⟩ : ∃ W, W = W3.setCell ⟨wr.heap.size, 2, none⟩ (.int .i64 ((u.mn + b))) := ⟨_, rfl⟩
        have HX4 : Hid (Has W4 wr.heap.size [.int .i64 u.ln, .int .i64 u.cr, .int .i64 (u.mn + b), .int .i64 u.ck]) := by rw [hW4]; exact Lib.hid (HW.out.2.set 2 (.int .i64 ((u.mn + b))))
        have hr4 := col_box hR.out HW.out.1 2 (.int .i64 ((u.mn + b)))
        rw [← hW4] at hr4
        have HR4 := Lib.hid hr4
        clear hr4
        rw [← hW4]
        clear hW4 a0 a1 a2 a3 f2
        have a0 := HX4.out.at_ 0 _ rfl
        have a1 := HX4.out.at_ 1 _ rfl
        have a2 := HX4.out.at_ 2 _ rfl
        have a3 := HX4.out.at_ 3 _ rfl
        go_wp2_with (at_builtin; go_loud (refine wpList_append_own _ rfl _ _ 24 rfl w.heap.size 45 i0 (.agg #[.int .i64 0, .int .i64 0, .int .i64 0, .int .i64 0]) 4 32 Try.underlying24 HI.out.1 HI.out.2.1 HI.out.2.2.1 HI.out.2.2.2 rfl (by decide) _ _ _ rfl (HR4.out.1.alloc _) ⟨W4.heap.size, 0, none⟩ 1 1 [.int .i64 u.ln, .int .i64 u.cr, .int .i64 (u.mn + b), .int .i64 u.ck] rfl rfl (four_newX W4 ⟨u.ln, u.cr, (u.mn + b), u.ck⟩ _) (by simp [Value.oneCell']) (by unfold maxLen; omega) (by omega) (by have := HR4.out.2.size; simp; omega) ?_; intro v' w5 hown' hgrow _; have HN := Lib.hid (HR4.out.step hown' hgrow); clear hown' hgrow))
        have hn3 : Col w 45 4 v' (k + 1) (cellsSX (crX (L.take k) l (fun m => m + b)) ++ [.int .i64 u.ln, .int .i64 u.cr, .int .i64 (u.mn + b), .int .i64 u.ck]) w5 := HN.out
        rw [← cellsS_snocX (crX (L.take k) l (fun m => m + b)) ⟨u.ln, u.cr, (u.mn + b), u.ck⟩, ← HV.out] at hn3
        have HN3 := Lib.hid hn3
        clear hn3 HN
        go_roundw
        case rel => exact ⟨k + 1, _, by omega, by go_num, rfl, HN3⟩
        case measure => simp [intOf]; omega
      · have HV := Lib.hid (crX_miss (f := (fun m => m + b)) hL he)
        have hd1 : (u.ln == l) = false := beq_eq_false_iff_ne.2 he
        have HR4 := HR3
        clear hL hbl hu he
        go_upto_region 9 with fail
        rw [← HE3.out]
        clear c0 c1 c2' c3
        go_wp2_with (at_builtin; go_loud (refine wpList_append_own _ rfl _ _ 24 rfl w.heap.size 45 i0 (.agg #[.int .i64 0, .int .i64 0, .int .i64 0, .int .i64 0]) 4 32 Try.underlying24 HI.out.1 HI.out.2.1 HI.out.2.2.1 HI.out.2.2.2 rfl (by decide) _ _ _ rfl (HR4.out.1.alloc _) ⟨W3.heap.size, 0, none⟩ 1 1 [.int .i64 u.ln, .int .i64 u.cr, .int .i64 u.mn, .int .i64 u.ck] rfl rfl (four_newX W3 u _) (by simp [Value.oneCell']) (by unfold maxLen; omega) (by omega) (by have := HR4.out.2.size; simp; omega) ?_; intro v' w5 hown' hgrow _; have HN := Lib.hid (HR4.out.step hown' hgrow); clear hown' hgrow))
        have hn3 : Col w 45 4 v' (k + 1) (cellsSX (crX (L.take k) l (fun m => m + b)) ++ [.int .i64 u.ln, .int .i64 u.cr, .int .i64 u.mn, .int .i64 u.ck]) w5 := HN.out
        rw [← cellsS_snocX, ← HV.out] at hn3
        have HN3 := Lib.hid hn3
        clear hn3 HN
        go_roundw
        case rel => exact ⟨k + 1, _, by omega, by go_num, rfl, HN3⟩
        case measure => simp [intOf]; omega
    · obtain rfl : k = L.length := by omega
      have hR' := hR.out
      rw [crX_all] at hR'
      obtain ⟨A9, c9, rfl, ho, hb⟩ := ownS_of_colX hR' (crX_len L l _)
      have HCP := Lib.hid (own_cap hR'.1)
      have HO := Lib.hid ho
      have HB := Lib.hid hb
      have HY := Lib.hid ho.sds
      clear hR' ho hb
      rcases hk2 : xdsB (crL L l b) with _ | _
      · have HK2 := Lib.hid hk2
        have HKF : Hid (ccK L l b = false) := Lib.hid (HK.out.symm.trans hk2)
        clear hk2
        go_wp2_with fail
        refine (xgood_spec_v _ _ _ (crL L l b) _ HK2.out _ HY.out hm).mono ?_
        rintro e w4 ⟨rfl, hb⟩
        have HB2 := Lib.hid (bthen HB.out hb HB.out.size)
        clear hb
        go_wp2_with fail
        go_ret2
        exact cc_no HKF.out (HB2.out.alloc HB2.out.size _)
      · have HK2 := Lib.hid hk2
        have HKT : Hid (ccK L l b = true) := Lib.hid (HK.out.symm.trans hk2)
        clear hk2
        go_wp2_with fail
        refine (xgood_spec_v _ _ _ (crL L l b) _ HK2.out _ HY.out hm).mono ?_
        rintro e w4 ⟨rfl, hb⟩
        have HB2 := Lib.hid (bthen HB.out hb HB.out.size)
        have HO2 := Lib.hid (ownS_upX HO.out hb)
        clear hb
        go_wp2_with fail
        go_ret2
        exact cc_yes HKT.out HCP.out (HO2.out) HB2.out
end Go.Proofs.Ytlakdlghkniegaa
