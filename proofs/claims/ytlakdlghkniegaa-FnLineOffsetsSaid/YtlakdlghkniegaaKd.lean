/-
  Differences: contracts of impl.differenceOf, meanOf, MeanDifference, mostOf over crossings, GreatestDifference, spec.l10Size, l10Diff, MeanDifference, GreatestDifference over this translation. Conditions: stated at each theorem.
-/
import Derived.Test.YtlakdlghkniegaaKw
import Derived.Test.YtlakdlghkniegaaKq
import Derived.Test.YtlakdlghkniegaaRed
import Derived.Deep.DeepCutAuto
namespace Go.Proofs.Ytlakdlghkniegaa
open Go.RowKit
set_option linter.unusedVariables false

def Num3X (x y : Int) (K : Bool) (w : World) (e : Ending) (w' : World) : Prop := e = .returned (.tuple #[.int .i64 x, .int .i64 y, .bool K]) ∧ Below w.heap.size w w'
theorem num3_no {x y : Int} {K : Bool} {w w' : World} (h : x = 0 ∧ y = 0 ∧ K = false) (hb : Below w.heap.size w w') : Num3X x y K w (.returned (.tuple #[.int .i64 0, .int .i64 0, .bool false])) w' := by obtain ⟨rfl, rfl, rfl⟩ := h; exact ⟨rfl, hb⟩
theorem num3_is {x y a b : Int} {K : Bool} {w w' : World} (h : x = a ∧ y = b ∧ K = true) (hb : Below w.heap.size w w') : Num3X x y K w (.returned (.tuple #[.int .i64 a, .int .i64 b, .bool true])) w' := by obtain ⟨rfl, rfl, rfl⟩ := h; exact ⟨rfl, hb⟩
theorem mostX_v (a b v : Int) (h : max a b = v) (w : World) : Calls Try.prog 66 #[.int .i64 a, .int .i64 b] w fun e w' => e = .returned (.int .i64 v) ∧ w = w' := h ▸ most_any a b w
theorem sz_spec (n v : Int) (h : szI n = v) (w : World) (h1 : -9223372036854775807 ≤ n) (h2 : n ≤ 9223372036854775807) :
    Calls Try.prog 72 #[.int .i64 n] w fun e w' => e = .returned (.int .i64 v) ∧ w = w' := by
  have H : Hid (max n (-n) = v) := Lib.hid h
  clear h
  go_enter Try.func72, Try.ntmps72
  go_wp2_with fail
  refine (mostX_v _ _ _ H.out _).mono ?_
  rintro e w' ⟨rfl, rfl⟩
  go_wp2_with fail
  go_ret
  exact ⟨rfl, rfl⟩
theorem szX_v (n v : Int) (h : szI n = v) (w : World) (h1 : -9223372036854775807 ≤ n) (h2 : n ≤ 9223372036854775807) :
    Calls Try.prog 70 #[.int .i64 n] w fun e w' => e = .returned (.int .i64 v) ∧ w = w' := ws_v n v h w h1 h2
theorem df_impl (v : XD) (d : Int) (h : dfI v = d) (hv : xdB v = true) (w : World) :
    Calls Try.prog 71 #[.agg #[.int .i64 v.ln, .int .i64 v.cr, .int .i64 v.mn, .int .i64 v.ck]] w fun e w' => e = .returned (.int .i64 d) ∧ Below w.heap.size w w' := by
  obtain ⟨h1, h2, _⟩ := dfI_bd hv
  have H : Hid (v.ck - v.mn = d) := Lib.hid h
  unfold dfI at h1 h2
  clear h hv
  go_enter Try.func71, Try.ntmps71
  go_wp2_with fail
  go_ret
  exact ⟨ret_int H.out, (Below.refl _ _).alloc (Nat.le_refl _) _⟩
theorem df_spec (v : XD) (d : Int) (h : dfI v = d) (hv : xdB v = true) (w : World) :
    Calls Try.prog 73 #[.agg #[.int .i64 v.ln, .int .i64 v.cr, .int .i64 v.mn, .int .i64 v.ck]] w fun e w' => e = .returned (.int .i64 d) ∧ Below w.heap.size w w' := by
  obtain ⟨h1, h2, _⟩ := dfI_bd hv
  have H : Hid (v.ck - v.mn = d) := Lib.hid h
  unfold dfI at h1 h2
  clear h hv
  go_enter Try.func73, Try.ntmps73
  go_wp2_with fail
  go_ret
  exact ⟨ret_int H.out, (Below.refl _ _).alloc (Nat.le_refl _) _⟩
/-! ### MeanDifference -/
def mdK (L : List XD) : Bool := xdsB L && decide (0 < L.length)
def mdN (L : List XD) : Int := if mdK L then mfN L else 0
def mdD (L : List XD) : Int := if mdK L then mfD L else 0
theorem md_no {L : List XD} (h : mdK L = false) : mdN L = 0 ∧ mdD L = 0 ∧ mdK L = false := ⟨by unfold mdN; rw [h]; rfl, by unfold mdD; rw [h]; rfl, h⟩
theorem md_1 {L : List XD} (h : xdsB L = false) : mdK L = false := by unfold mdK; rw [h]; rfl
theorem md_2 {L : List XD} (h : L.length = 0) : mdK L = false := by unfold mdK; rw [decide_eq_false (show ¬ 0 < L.length by omega), Bool.and_false]
theorem md_3 {L : List XD} (h : xdsB L = true) (h0 : 0 < L.length) : mdK L = true := by unfold mdK; rw [h, decide_eq_true h0]; rfl
theorem md_yes {L : List XD} (h : mdK L = true) : mdN L = mfN L ∧ mdD L = mfD L ∧ mdK L = true := ⟨by unfold mdN; rw [h, if_pos rfl], by unfold mdD; rw [h, if_pos rfl], h⟩
set_option maxRecDepth 20000 in
set_option maxHeartbeats 3200000 in
theorem meanOf_impl (A : Option Addr) (n c : Nat) (M : List XD) (x y : Int) (hx : mfN M = x) (hy : mfD M = y) (w : World) (hs : SdsX w w.heap.size A n M) (hg : SmX M) (h0 : 0 < M.length) :
    Calls Try.prog 76 #[.slice A n c] w fun e w' => e = .returned (.agg #[.int .i64 x, .int .i64 y]) ∧ Below w.heap.size w w' := by
  obtain rfl := hs.1
  have HZ0 := box1 (w := w) (cs := #[.int .i64 0, .int .i64 0]) (T := 80) (Below.refl _ _)
  have HX := Lib.hid hx
  have HY := Lib.hid hy
  have HG := Lib.hid hg
  have h10 := hg.max
  have HS := Lib.hid (sds_atX hs HZ0.1)
  have HZ := Lib.hid HZ0
  have HSL : Hid (w.heap.size < (w.alloc (.cells #[.int .i64 0, .int .i64 0] 80)).heap.size) := Lib.hid (by simp)
  clear hs hx hy hg HZ0
  go_enter Try.func76, Try.ntmps76
  go_wp2_with fail
  obtain ⟨V, hV⟩ : ∃ V, V = w.alloc (.cells #[.int .i64 0, .int .i64 0] 80) := ⟨_, rfl⟩
  rw [← hV] at HZ HS HSL ⊢
  clear hV
  go_loopw [3, 10] (fun q i wr => ∃ (k : Nat) (s : Int), k ≤ M.length ∧ i = .int .i64 k ∧ q = .int .i64 s ∧ Hid (s = dsK M k) ∧ (-21000 * (k : Int) ≤ s ∧ s ≤ 21000 * (k : Int)) ∧ Hid (Below V.heap.size V wr)) (fun _ i _ => M.length - (intOf i).toNat)
  case atStart => exact ⟨0, 0, Nat.zero_le _, rfl, rfl, Lib.hid rfl, by omega, Lib.hid (Below.refl _ _)⟩
  case round =>
    obtain ⟨k, s, hk, rfl, rfl, hM, ⟨hs1, hs2⟩, hB⟩ := hrel
    by_cases hlt : k < M.length
    · obtain ⟨b, o, v, rfl, hbl, hL, c0, c1, c2, c3⟩ := (sds_atX HS.out hB.out).2 k hlt
      have hxv := HG.out.one k hlt
      rw [xdAt_at hL] at hxv
      obtain ⟨q1, q2, _⟩ := dfI_bd hxv
      have HVV := Lib.hid hxv
      obtain ⟨d, hd⟩ : ∃ d, dfI v = d := ⟨_, rfl⟩
      have HN : Hid (s + d = dsK M (k + 1)) := by unfold Hid; rw [dsK, xdAt_at hL, ← hM.out, hd]
      rw [hd] at q1 q2
      have HD := Lib.hid hd
      clear hL hxv hd
      have HB1 := Lib.hid (hB.out.alloc hB.out.size (.cells #[.int .i64 v.ln, .int .i64 v.cr, .int .i64 v.mn, .int .i64 v.ck] 45))
      go_wp2_with fail
      refine (df_impl v d HD.out HVV.out _).mono ?_
      rintro e w2 ⟨rfl, hb⟩
      have HB2 := Lib.hid (bthen HB1.out hb HB1.out.size)
      clear hb c0 c1 c2 c3
      go_wp2_with fail
      go_roundw
      case rel => exact ⟨k + 1, s + d, by omega, by go_num, by first | rfl | go_num, HN, by omega, HB2⟩
      case measure => simp [intOf]; omega
    · obtain rfl : k = M.length := by omega
      go_wp2_with fail
      refine (lowest_impl s M.length _ (by omega) (by omega) h0 (by omega)).mono ?_
      rintro e w2 ⟨rfl, hb⟩
      have HQ : Hid (s.tdiv (gd s M.length : Nat) = x ∧ (M.length : Int) / (gd s M.length : Nat) = y) := by rw [hM.out]; exact Lib.hid ⟨HX.out, HY.out⟩
      have HN := Lib.hid (And.intro (bthen HZ.out.1 (bthen hB.out hb hB.out.size) HZ.out.1.size) ((HZ.out.2.on hB.out HSL.out).next hb))
      clear hb
      rw [HQ.out.1, HQ.out.2]
      have z0 := HN.out.2.at_ 0 _ rfl
      have z1 := HN.out.2.at_ 1 _ rfl
      have zf0 := HN.out.2.free 0
      have zf1 := HN.out.2.free 1
      go_wp2_with fail
      refine bodyPost_ret (v := .agg #[.int .i64 x, .int .i64 y]) (by simp [results, Try.results76, go_sem, z0, z1]) rfl ⟨rfl, ?_⟩
      repeat (first | exact HN.out.1 | refine Below.setCell ?_ (by simp; try omega) _)
set_option maxRecDepth 20000 in
set_option maxHeartbeats 3200000 in
theorem meanX_impl (A : Option Addr) (n c : Nat) (L : List XD) (w : World) (hs : SdsX w w.heap.size A n L) (hm : n ≤ maxLen) (hcap : n ≤ c) :
    Calls Try.prog 43 #[.slice A n c] w (Num3X (mdN L) (mdD L) (mdK L) w) := by
  obtain rfl := hs.1
  have HS := Lib.hid hs
  clear hs
  rcases ha : xdsB L with _ | _
  · have HA := Lib.hid ha
    clear ha
    go_enter Try.func43, Try.ntmps43
    go_wp2_with fail
    refine (xds_impl_v _ _ _ L _ HA.out _ HS.out hm hcap).mono ?_
    rintro e w1 ⟨rfl, hb⟩
    have HB1 := Lib.hid hb
    clear hb
    go_wp2_with fail
    go_ret3
    exact num3_no (md_no (md_1 HA.out)) HB1.out
  have HA := Lib.hid ha
  have HG := Lib.hid (good10_of ha)
  have h12 := (good10_of ha).max
  clear ha
  by_cases h0 : L.length = 0
  · have HZ := Lib.hid h0
    have hz : (((L.length : Nat) : Int) == 0) = true := beq_iff_eq.2 (by omega)
    clear h0
    go_enter Try.func43, Try.ntmps43
    go_wp2_with fail
    refine (xds_impl_v _ _ _ L _ HA.out _ HS.out hm hcap).mono ?_
    rintro e w1 ⟨rfl, hb⟩
    have HB1 := Lib.hid hb
    clear hb
    go_wp2_with fail
    go_ret3
    exact num3_no (md_no (md_2 HZ.out)) HB1.out
  have hz : (((L.length : Nat) : Int) == 0) = false := beq_eq_false_iff_ne.2 (by omega)
  have hpos : 0 < L.length := by omega
  have HP := Lib.hid (md_yes (md_3 HA.out hpos))
  go_enter Try.func43, Try.ntmps43
  go_wp2_with fail
  refine (xds_impl_v _ _ _ L _ HA.out _ HS.out hm hcap).mono ?_
  rintro e W1 ⟨rfl, hb⟩
  have HB1 := Lib.hid hb
  have HS1 := Lib.hid (sds_atX HS.out hb)
  clear hb
  obtain ⟨x, hx⟩ : ∃ x, mfN L = x := ⟨_, rfl⟩
  obtain ⟨y, hy⟩ : ∃ y, mfD L = y := ⟨_, rfl⟩
  have HX := Lib.hid hx
  have HY := Lib.hid hy
  rw [hx, hy] at HP
  clear hx hy
  go_wp2_with fail
  refine (meanOf_impl _ _ _ L x y HX.out HY.out _ HS1.out (smX_good HG.out) hpos).mono ?_
  rintro e W2 ⟨rfl, hb⟩
  have HB2 := Lib.hid (bthen HB1.out hb HB1.out.size)
  clear hb
  obtain ⟨X, hX⟩ : ∃ W, W = W2.alloc (.cells #[.int .i64 x, .int .i64 y] 80) := ⟨_, rfl⟩
  have HX9 : Hid (Below W2.heap.size W2 X ∧ Has X W2.heap.size [.int .i64 x, .int .i64 y]) := by rw [hX]; exact box1 (Below.refl _ _)
  have HE := Lib.hid hX
  have HB3 := Lib.hid (bthen HB2.out HX9.out.1 HB2.out.size)
  clear hX
  go_upto_region 4 with fail
  rw [← HE.out]
  clear HE
  have e0 := HX9.out.2.at_ 0 _ rfl
  have e1 := HX9.out.2.at_ 1 _ rfl
  have lc0 := lcell (e0)
  have lc1 := lcell (e1)
  refine region_later (W := X) (by kernel_rfl) (by kernel_rfl) (Below.refl _ _) ?_
  repeat (go_big_quiet_step (fail))
  refine wpQuiet_nil ?_
  intro W5 hW1
  have HL : Hid (Below X.heap.size X W5) := by obtain ⟨x, rfl⟩ := hW1; exact Lib.hid x.below
  clear hW1 lc0 lc1
  have HB5 := Lib.hid (bthen HB3.out HL.out HB3.out.size)
  go_wp2_with fail
  go_ret3
  exact num3_is HP.out HB5.out
set_option maxRecDepth 20000 in
set_option maxHeartbeats 3200000 in
theorem meanX_spec (A : Option Addr) (n c : Nat) (L : List XD) (w : World) (hs : SdsX w w.heap.size A n L) (hm : n ≤ maxLen) :
    Calls Try.prog 44 #[.slice A n c] w (Num3X (mdN L) (mdD L) (mdK L) w) := by
  obtain rfl := hs.1
  have HS := Lib.hid hs
  clear hs
  rcases ha : xdsB L with _ | _
  · have HA := Lib.hid ha
    clear ha
    go_enter Try.func44, Try.ntmps44
    go_wp2_with fail
    refine (xgood_spec_v _ _ _ L _ HA.out _ HS.out hm).mono ?_
    rintro e w1 ⟨rfl, hb⟩
    have HB1 := Lib.hid hb
    clear hb
    go_wp2_with fail
    go_ret3
    exact num3_no (md_no (md_1 HA.out)) HB1.out
  have HA := Lib.hid ha
  have HG := Lib.hid (good10_of ha)
  have h12 := (good10_of ha).max
  clear ha
  by_cases h0 : L.length = 0
  · have HZ := Lib.hid h0
    have hz : (((L.length : Nat) : Int) == 0) = true := beq_iff_eq.2 (by omega)
    clear h0
    go_enter Try.func44, Try.ntmps44
    go_wp2_with fail
    refine (xgood_spec_v _ _ _ L _ HA.out _ HS.out hm).mono ?_
    rintro e w1 ⟨rfl, hb⟩
    have HB1 := Lib.hid hb
    clear hb
    go_wp2_with fail
    go_ret3
    exact num3_no (md_no (md_2 HZ.out)) HB1.out
  have hz : (((L.length : Nat) : Int) == 0) = false := beq_eq_false_iff_ne.2 (by omega)
  have hpos : 0 < L.length := by omega
  have HP := Lib.hid (md_yes (md_3 HA.out hpos))
  go_enter Try.func44, Try.ntmps44
  go_wp2_with fail
  refine (xgood_spec_v _ _ _ L _ HA.out _ HS.out hm).mono ?_
  rintro e W1 ⟨rfl, hb⟩
  have HB1 := Lib.hid hb
  have HS1 := Lib.hid (sds_atX HS.out hb)
  clear hb
  go_wp2_with fail
  go_loopw [5, 6] (fun q i wr => ∃ (k : Nat) (s : Int), k ≤ L.length ∧ i = .int .i64 k ∧ q = .int .i64 s ∧ Hid (s = dsK L k) ∧ (-21000 * (k : Int) ≤ s ∧ s ≤ 21000 * (k : Int)) ∧ Hid (Below w.heap.size w wr)) (fun _ i _ => L.length - (intOf i).toNat)
  case atStart => exact ⟨0, 0, Nat.zero_le _, rfl, rfl, Lib.hid rfl, by omega, HB1⟩
  case round =>
    obtain ⟨k, s, hk, rfl, rfl, hM, ⟨hs1, hs2⟩, hB⟩ := hrel
    by_cases hlt : k < L.length
    · obtain ⟨b, o, v, rfl, hbl, hL, c0, c1, c2, c3⟩ := (sds_atX HS.out hB.out).2 k hlt
      have hxv := HG.out.one k hlt
      rw [xdAt_at hL] at hxv
      obtain ⟨q1, q2, _⟩ := dfI_bd hxv
      have HVV := Lib.hid hxv
      obtain ⟨d, hd⟩ : ∃ d, dfI v = d := ⟨_, rfl⟩
      have HN : Hid (s + d = dsK L (k + 1)) := by unfold Hid; rw [dsK, xdAt_at hL, ← hM.out, hd]
      rw [hd] at q1 q2
      have HD := Lib.hid hd
      clear hL hxv hd
      go_wp2_with fail
      refine (df_spec v d HD.out HVV.out _).mono ?_
      rintro e w2 ⟨rfl, hb⟩
      have HB2 := Lib.hid (bthen hB.out hb hB.out.size)
      clear hb c0 c1 c2 c3
      go_wp2_with fail
      go_roundw
      case rel => exact ⟨k + 1, s + d, by omega, by go_num, by first | rfl | go_num, HN, by omega, HB2⟩
      case measure => simp [intOf]; omega
    · obtain rfl : k = L.length := by omega
      go_wp2_with fail
      refine (reduce_spec s L.length _ (by omega) (by omega) (by omega) (by omega)).mono ?_
      rintro e w2 ⟨rfl, hb⟩
      have HB2 := Lib.hid (bthen hB.out hb hB.out.size)
      clear hb
      have HQ : Hid (mdN L = s.tdiv (gd s L.length : Nat) ∧ mdD L = (L.length : Int) / (gd s L.length : Nat) ∧ mdK L = true) := by rw [hM.out]; exact HP
      go_wp2_with fail
      go_ret3
      exact num3_is HQ.out HB2.out
/-! ### GreatestDifference -/
def gtI (L : List XD) : Int := if mdK L then (gdK L (L.length - 1) : Int) else 0
def gtV (L : List XD) : Int := if mdK L then dfI (xdAt L (gdK L (L.length - 1))) else 0
theorem gt_no {L : List XD} (h : mdK L = false) : gtI L = 0 ∧ gtV L = 0 ∧ mdK L = false := ⟨by unfold gtI; rw [h]; rfl, by unfold gtV; rw [h]; rfl, h⟩
theorem gt_yes {L : List XD} (h : mdK L = true) : gtI L = (gdK L (L.length - 1) : Int) ∧ gtV L = dfI (xdAt L (gdK L (L.length - 1))) ∧ mdK L = true := ⟨by unfold gtI; rw [h, if_pos rfl], by unfold gtV; rw [h, if_pos rfl], h⟩
theorem gd_hit {L : List XD} {k m : Nat} (hm : m = gdK L (k - 1)) (hk : 0 < k) (h : szI (dfI (xdAt L m)) < szI (dfI (xdAt L k))) : k = gdK L (k + 1 - 1) := by
  obtain ⟨j, rfl⟩ : ∃ j, k = j + 1 := ⟨k - 1, by omega⟩
  rw [Nat.add_sub_cancel] at hm ⊢
  rw [gdK, ← hm, if_pos h]
theorem gd_miss {L : List XD} {k m : Nat} (hm : m = gdK L (k - 1)) (h : ¬ szI (dfI (xdAt L m)) < szI (dfI (xdAt L k))) : m = gdK L (k + 1 - 1) := by
  rcases Nat.eq_zero_or_pos k with rfl | hk
  · exact hm
  · obtain ⟨j, rfl⟩ : ∃ j, k = j + 1 := ⟨k - 1, by omega⟩
    rw [Nat.add_sub_cancel] at hm ⊢
    rw [gdK, ← hm, if_neg h]
set_option maxRecDepth 20000 in
set_option maxHeartbeats 1600000 in
theorem more_diff (u v : XD) (r : Bool) (hr : decide (szI (dfI v) < szI (dfI u)) = r) (hu : xdB u = true) (hv : xdB v = true) (w : World) :
    Calls Try.prog 69 #[.agg #[.int .i64 u.ln, .int .i64 u.cr, .int .i64 u.mn, .int .i64 u.ck], .agg #[.int .i64 v.ln, .int .i64 v.cr, .int .i64 v.mn, .int .i64 v.ck]] w fun e w' => e = .returned (.bool r) ∧ Below w.heap.size w w' := by
  obtain ⟨d, hd⟩ : ∃ d, dfI u = d := ⟨_, rfl⟩
  obtain ⟨d', hd'⟩ : ∃ d, dfI v = d := ⟨_, rfl⟩
  obtain ⟨s, hs⟩ : ∃ s, szI d = s := ⟨_, rfl⟩
  obtain ⟨s', hs'⟩ : ∃ s, szI d' = s := ⟨_, rfl⟩
  have b1 := dfI_bd hu
  have b2 := dfI_bd hv
  rw [hd] at b1
  rw [hd'] at b2
  rw [hd, hs, hd', hs'] at hr
  have HR := Lib.hid hr
  have HU := Lib.hid (And.intro hd (And.intro hu hs))
  have HV := Lib.hid (And.intro hd' (And.intro hv hs'))
  obtain ⟨p1, p2, _⟩ := b1
  obtain ⟨p3, p4, _⟩ := b2
  have HX0 := box2 (w := w) (cs := #[.int .i64 u.ln, .int .i64 u.cr, .int .i64 u.mn, .int .i64 u.ck]) (ds := #[.int .i64 v.ln, .int .i64 v.cr, .int .i64 v.mn, .int .i64 v.ck]) (T := 45) (T' := 45) (Below.refl _ _)
  obtain ⟨W0, hW0⟩ : ∃ W0, W0 = (w.alloc (.cells #[.int .i64 u.ln, .int .i64 u.cr, .int .i64 u.mn, .int .i64 u.ck] 45)).alloc (.cells #[.int .i64 v.ln, .int .i64 v.cr, .int .i64 v.mn, .int .i64 v.ck] 45) := ⟨_, rfl⟩
  rw [← hW0] at HX0
  have a0 := HX0.2.1.at_ 0 _ rfl
  have a1 := HX0.2.1.at_ 1 _ rfl
  have a2 := HX0.2.1.at_ 2 _ rfl
  have a3 := HX0.2.1.at_ 3 _ rfl
  have b0 := HX0.2.2.at_ 0 _ rfl
  have b1 := HX0.2.2.at_ 1 _ rfl
  have b2 := HX0.2.2.at_ 2 _ rfl
  have b3 := HX0.2.2.at_ 3 _ rfl
  have HB0 := Lib.hid HX0.1
  have HE := Lib.hid hW0
  clear hW0 HX0 hd hd' hs hs' hu hv hr
  go_enter Try.func69, Try.ntmps69
  go_wp2_with fail
  rw [← HE.out]
  have lc0 := lcell (a0)
  have lc1 := lcell (a1)
  have lc2 := lcell (a2)
  have lc3 := lcell (a3)
  have lc4 := lcell (b0)
  have lc5 := lcell (b1)
  have lc6 := lcell (b2)
  have lc7 := lcell (b3)
  refine region_later (W := W0) (by kernel_rfl) (by kernel_rfl) (Below.refl _ _) ?_
  repeat (go_big_quiet_step (((first | (go_at_call 71; exact later_call (df_impl u d HU.out.1 HU.out.2.1 _)) | (go_at_call 71; exact later_call (df_impl v d' HV.out.1 HV.out.2.1 _)) | (go_at_call 70; with_reducible exact later_same (szX_v d s HU.out.2.2 _ (by omega) (by omega))) | (go_at_call 70; with_reducible exact later_same (szX_v d' s' HV.out.2.2 _ (by omega) (by omega)))))))
  refine wpQuiet_nil ?_
  intro W1 hW1
  have HL : Hid (Below W0.heap.size W0 W1) := by obtain ⟨x, rfl⟩ := hW1; exact Lib.hid x.below
  clear hW1 lc0 lc1 lc2 lc3 lc4 lc5 lc6 lc7
  have HB2 := Lib.hid (bthen HB0.out HL.out HB0.out.size)
  go_wp2_with fail
  go_ret
  exact ⟨ret_bool HR.out, HB2.out⟩
set_option maxRecDepth 20000 in
set_option maxHeartbeats 3200000 in
theorem mostX_impl (A : Option Addr) (n c : Nat) (L : List XD) (x : Nat) (hx : gdK L (L.length - 1) = x) (w : World) (hs : SdsX w w.heap.size A n L) (hm : n ≤ maxLen) (hg : SmX L) (h0 : 0 < L.length) :
    Calls Try.prog 68 #[.slice A n c, .func (.func 69) #[] #[]] w fun e w' => e = .returned (.int .i64 x) ∧ Below w.heap.size w w' := by
  obtain rfl := hs.1
  have HS := Lib.hid hs
  have HG := Lib.hid hg
  have HXX := Lib.hid hx
  have h10 := hg.max
  clear hs hg hx
  unfold maxLen at hm
  go_enter Try.func68, Try.ntmps68
  go_wp2_with fail
  go_loopw [5, 10] (fun q i wr => ∃ k m : Nat, k ≤ L.length ∧ m < L.length ∧ i = .int .i64 k ∧ q = .int .i64 m ∧ Hid (m = gdK L (k - 1)) ∧ Hid (k = 0 → m = 0) ∧ Hid (Below w.heap.size w wr)) (fun _ i _ => L.length - (intOf i).toNat)
  case atStart => exact ⟨0, 0, Nat.zero_le _, h0, rfl, rfl, Lib.hid rfl, Lib.hid (fun _ => rfl), Lib.hid (Below.refl _ _)⟩
  case round =>
    obtain ⟨k, m, hk, hml, rfl, rfl, hM, hM0, hB⟩ := hrel
    by_cases hlt : k < L.length
    · obtain ⟨b, o, u, rfl, hbl, hL, c0, c1, c2, c3⟩ := (sds_atX HS.out hB.out).2 k hlt
      obtain ⟨b', o', v, hA', _, hL', d0, d1, d2, d3⟩ := (sds_atX HS.out hB.out).2 m hml
      obtain ⟨rfl, rfl⟩ : b = b' ∧ o = o' := by injection hA' with h; injection h with h h'; exact ⟨h, h'⟩
      have hu := HG.out.one k hlt
      have hv := HG.out.one m hml
      rw [xdAt_at hL] at hu
      rw [xdAt_at hL'] at hv
      have HU := Lib.hid hu
      have HV := Lib.hid hv
      obtain ⟨r, hr⟩ : ∃ r, decide (szI (dfI v) < szI (dfI u)) = r := ⟨_, rfl⟩
      have HR := Lib.hid hr
      have HN : Hid ((r = true → k = gdK L (k + 1 - 1)) ∧ (r = false → m = gdK L (k + 1 - 1))) := by
        refine Lib.hid ⟨fun h => ?_, fun h => ?_⟩
        · rcases Nat.eq_zero_or_pos k with h0 | h0
          · exfalso
            have e := hM0.out h0
            have e2 : v = u := by rw [h0] at hL; rw [e] at hL'; exact Option.some.inj (hL'.symm.trans hL)
            rw [e2] at hr
            rw [h] at hr
            exact absurd (of_decide_eq_true hr) (Int.lt_irrefl _)
          · refine gd_hit hM.out h0 ?_
            rw [xdAt_at hL, xdAt_at hL']
            exact of_decide_eq_true (hr.trans h)
        · refine gd_miss hM.out ?_
          rw [xdAt_at hL, xdAt_at hL']
          exact of_decide_eq_false (hr.trans h)
      obtain ⟨W0, hW0⟩ : ∃ W0, W0 = wr.alloc (.cells #[.int .i64 u.ln, .int .i64 u.cr, .int .i64 u.mn, .int .i64 u.ck] 45) := ⟨_, rfl⟩
      have HW : Hid (Below wr.heap.size wr W0 ∧ Has W0 wr.heap.size [.int .i64 u.ln, .int .i64 u.cr, .int .i64 u.mn, .int .i64 u.ck]) := by rw [hW0]; exact box1 (Below.refl _ _)
      have HB0 := Lib.hid (bthen hB.out HW.out.1 hB.out.size)
      have a0 := HW.out.2.at_ 0 _ rfl
      have a1 := HW.out.2.at_ 1 _ rfl
      have a2 := HW.out.2.at_ 2 _ rfl
      have a3 := HW.out.2.at_ 3 _ rfl
      have e0 := cell_next HW.out.1 d0
      have e1 := cell_next HW.out.1 d1
      have e2 := cell_next HW.out.1 d2
      have e3 := cell_next HW.out.1 d3
      have HE := Lib.hid hW0
      clear hW0 hL hL' hA' hu hv hr d0 d1 d2 d3
      go_upto_region 5 with fail
      rw [← HE.out]
      clear c0 c1 c2 c3
      have lc0 := lcell (a0)
      have lc1 := lcell (a1)
      have lc2 := lcell (a2)
      have lc3 := lcell (a3)
      have lc4 := lcell (e0)
      have lc5 := lcell (e1)
      have lc6 := lcell (e2)
      have lc7 := lcell (e3)
      refine region_later (W := W0) (by kernel_rfl) (by kernel_rfl) (Below.refl _ _) ?_
      repeat (go_big_quiet_step (((go_at_call 69; exact later_call (more_diff u v r HR.out HU.out HV.out _)))))
      refine wpQuiet_nil ?_
      intro W1 hW1
      have HL : Hid (Below W0.heap.size W0 W1) := by obtain ⟨x, rfl⟩ := hW1; exact Lib.hid x.below
      clear hW1 lc0 lc1 lc2 lc3 lc4 lc5 lc6 lc7
      have HB2 := Lib.hid (bthen HB0.out HL.out HB0.out.size)
      clear a0 a1 a2 a3 e0 e1 e2 e3
      rcases r with _ | _
      · go_wp2_with fail
        go_roundw
        case rel => exact ⟨k + 1, m, by omega, hml, by go_num, rfl, Lib.hid (HN.out.2 rfl), Lib.hid (fun h => by omega), HB2⟩
        case measure => simp [intOf]; omega
      · go_wp2_with fail
        go_roundw
        case rel => exact ⟨k + 1, k, by omega, hlt, by go_num, rfl, Lib.hid (HN.out.1 rfl), Lib.hid (fun h => by omega), HB2⟩
        case measure => simp [intOf]; omega
    · obtain rfl : k = L.length := by omega
      have HR : Hid ((m : Int) = x) := by unfold Hid; rw [hM.out, HXX.out]
      go_wp2_with fail
      go_ret
      exact ⟨ret_int HR.out, hB.out⟩
set_option maxRecDepth 20000 in
set_option maxHeartbeats 3200000 in
theorem great_impl (A : Option Addr) (n c : Nat) (L : List XD) (w : World) (hs : SdsX w w.heap.size A n L) (hm : n ≤ maxLen) (hcap : n ≤ c) :
    Calls Try.prog 29 #[.slice A n c] w (Num3X (gtI L) (gtV L) (mdK L) w) := by
  obtain rfl := hs.1
  have HS := Lib.hid hs
  clear hs
  rcases ha : xdsB L with _ | _
  · have HA := Lib.hid ha
    clear ha
    go_enter Try.func29, Try.ntmps29
    go_wp2_with fail
    refine (xds_impl_v _ _ _ L _ HA.out _ HS.out hm hcap).mono ?_
    rintro e w1 ⟨rfl, hb⟩
    have HB1 := Lib.hid hb
    clear hb
    go_wp2_with fail
    go_ret3
    exact num3_no (gt_no (md_1 HA.out)) HB1.out
  have HA := Lib.hid ha
  have HG := Lib.hid (good10_of ha)
  have h12 := (good10_of ha).max
  clear ha
  by_cases h0 : L.length = 0
  · have HZ := Lib.hid h0
    have hz : (((L.length : Nat) : Int) == 0) = true := beq_iff_eq.2 (by omega)
    clear h0
    go_enter Try.func29, Try.ntmps29
    go_wp2_with fail
    refine (xds_impl_v _ _ _ L _ HA.out _ HS.out hm hcap).mono ?_
    rintro e w1 ⟨rfl, hb⟩
    have HB1 := Lib.hid hb
    clear hb
    go_wp2_with fail
    go_ret3
    exact num3_no (gt_no (md_2 HZ.out)) HB1.out
  have hz : (((L.length : Nat) : Int) == 0) = false := beq_eq_false_iff_ne.2 (by omega)
  have hpos : 0 < L.length := by omega
  have HP := Lib.hid (gt_yes (md_3 HA.out hpos))
  go_enter Try.func29, Try.ntmps29
  go_wp2_with fail
  refine (xds_impl_v _ _ _ L _ HA.out _ HS.out hm hcap).mono ?_
  rintro e W1 ⟨rfl, hb⟩
  have HB1 := Lib.hid hb
  have HS1 := Lib.hid (sds_atX HS.out hb)
  clear hb
  obtain ⟨x, hx⟩ : ∃ x, gdK L (L.length - 1) = x := ⟨_, rfl⟩
  have hxl : x < L.length := by have := gdK_le L (L.length - 1); omega
  obtain ⟨d, hd⟩ : ∃ d, dfI (xdAt L x) = d := ⟨_, rfl⟩
  have hxv := HG.out.one x hxl
  rw [hx, hd] at HP
  have HX := Lib.hid hx
  have HXV := Lib.hid (And.intro hd hxv)
  clear hx hd hxv
  go_wp2_with fail
  refine (mostX_impl _ _ _ L x HX.out _ HS1.out hm (smX_good HG.out) hpos).mono ?_
  rintro e W2 ⟨rfl, hb⟩
  have HB2 := Lib.hid (bthen HB1.out hb HB1.out.size)
  obtain ⟨b, o, v, rfl, hbl, hL, c0, c1, c2, c3⟩ := (sds_atX HS1.out hb).2 x hxl
  have HV : Hid (dfI v = d ∧ xdB v = true) := by have := HXV.out; rw [xdAt_at hL] at this; exact Lib.hid this
  clear hb hL
  go_wp2_with fail
  refine (df_impl v d HV.out.1 HV.out.2 _).mono ?_
  rintro e W3 ⟨rfl, hb⟩
  have HB3 := Lib.hid (bthen HB2.out hb HB2.out.size)
  clear hb
  go_wp2_with fail
  go_ret3
  exact num3_is HP.out HB3.out
set_option maxRecDepth 20000 in
set_option maxHeartbeats 3200000 in
theorem great_spec (A : Option Addr) (n c : Nat) (L : List XD) (w : World) (hs : SdsX w w.heap.size A n L) (hm : n ≤ maxLen) :
    Calls Try.prog 30 #[.slice A n c] w (Num3X (gtI L) (gtV L) (mdK L) w) := by
  obtain rfl := hs.1
  have HS := Lib.hid hs
  clear hs
  rcases ha : xdsB L with _ | _
  · have HA := Lib.hid ha
    clear ha
    go_enter Try.func30, Try.ntmps30
    go_wp2_with fail
    refine (xgood_spec_v _ _ _ L _ HA.out _ HS.out hm).mono ?_
    rintro e w1 ⟨rfl, hb⟩
    have HB1 := Lib.hid hb
    clear hb
    go_wp2_with fail
    go_ret3
    exact num3_no (gt_no (md_1 HA.out)) HB1.out
  have HA := Lib.hid ha
  have HG := Lib.hid (good10_of ha)
  have h12 := (good10_of ha).max
  clear ha
  by_cases h0 : L.length = 0
  · have HZ := Lib.hid h0
    have hz : (((L.length : Nat) : Int) == 0) = true := beq_iff_eq.2 (by omega)
    clear h0
    go_enter Try.func30, Try.ntmps30
    go_wp2_with fail
    refine (xgood_spec_v _ _ _ L _ HA.out _ HS.out hm).mono ?_
    rintro e w1 ⟨rfl, hb⟩
    have HB1 := Lib.hid hb
    clear hb
    go_wp2_with fail
    go_ret3
    exact num3_no (gt_no (md_2 HZ.out)) HB1.out
  have hz : (((L.length : Nat) : Int) == 0) = false := beq_eq_false_iff_ne.2 (by omega)
  have hpos : 0 < L.length := by omega
  have HP := Lib.hid (gt_yes (md_3 HA.out hpos))
  go_enter Try.func30, Try.ntmps30
  go_wp2_with fail
  refine (xgood_spec_v _ _ _ L _ HA.out _ HS.out hm).mono ?_
  rintro e W1 ⟨rfl, hb⟩
  have HB1 := Lib.hid hb
  have HS1 := Lib.hid (sds_atX HS.out hb)
  clear hb
  obtain ⟨x, hx⟩ : ∃ x, gdK L (L.length - 1) = x := ⟨_, rfl⟩
  have hxl : x < L.length := by have := gdK_le L (L.length - 1); omega
  obtain ⟨d, hd⟩ : ∃ d, dfI (xdAt L x) = d := ⟨_, rfl⟩
  have hxv := HG.out.one x hxl
  rw [hx, hd] at HP
  have HX := Lib.hid hx
  have HXV := Lib.hid (And.intro hd hxv)
  clear hx hd hxv
  go_wp2_with fail
  go_loopw [5, 6] (fun q i wr => ∃ k m : Nat, 1 ≤ k ∧ k ≤ L.length ∧ m < k ∧ i = .int .i64 k ∧ q = .int .i64 m ∧ Hid (m = gdK L (k - 1)) ∧ Hid (Below w.heap.size w wr)) (fun _ i _ => L.length - (intOf i).toNat)
  case atStart => exact ⟨1, 0, Nat.le_refl _, hpos, by omega, rfl, rfl, Lib.hid rfl, HB1⟩
  case round =>
    obtain ⟨k, m, hk1, hk, hml, rfl, rfl, hM, hB⟩ := hrel
    by_cases hlt : k < L.length
    · obtain ⟨b, o, u, rfl, hbl, hL, c0, c1, c2, c3⟩ := (sds_atX HS.out hB.out).2 k hlt
      obtain ⟨b', o', v, hA', _, hL', d0, d1, d2, d3⟩ := (sds_atX HS.out hB.out).2 m (by omega)
      obtain ⟨rfl, rfl⟩ : b = b' ∧ o = o' := by injection hA' with h; injection h with h h'; exact ⟨h, h'⟩
      have hu := HG.out.one k hlt
      have hv := HG.out.one m (by omega)
      rw [xdAt_at hL] at hu
      rw [xdAt_at hL'] at hv
      obtain ⟨d1', hd1⟩ : ∃ d, dfI u = d := ⟨_, rfl⟩
      obtain ⟨d2', hd2⟩ : ∃ d, dfI v = d := ⟨_, rfl⟩
      obtain ⟨s1, hs1⟩ : ∃ s, szI d1' = s := ⟨_, rfl⟩
      obtain ⟨s2, hs2⟩ : ∃ s, szI d2' = s := ⟨_, rfl⟩
      have b1 := dfI_bd hu
      have b2 := dfI_bd hv
      rw [hd1] at b1
      rw [hd2] at b2
      have HN : Hid ((s2 < s1 → k = gdK L (k + 1 - 1)) ∧ (¬ s2 < s1 → m = gdK L (k + 1 - 1))) := by
        rw [← hs1, ← hs2, ← hd1, ← hd2]
        refine Lib.hid ⟨fun h => gd_hit hM.out (by omega) ?_, fun h => gd_miss hM.out ?_⟩
        · rw [xdAt_at hL, xdAt_at hL']; exact h
        · rw [xdAt_at hL, xdAt_at hL']; exact h
      have HU := Lib.hid (And.intro hd1 (And.intro hu hs1))
      have HV := Lib.hid (And.intro hd2 (And.intro hv hs2))
      obtain ⟨p1, p2, _⟩ := b1
      obtain ⟨p3, p4, _⟩ := b2
      clear hL hL' hA' hu hv hd1 hd2 hs1 hs2
      obtain ⟨W0, rfl⟩ : ∃ W : World, W = wr := ⟨_, rfl⟩
      by_cases hc : s2 < s1
      · have hd9 : decide (s2 < s1) = true := decide_eq_true hc
        go_wp2_with fail
        have lc0 := lcell (c0)
        have lc1 := lcell (c1)
        have lc2 := lcell (c2)
        have lc3 := lcell (c3)
        have lc4 := lcell (d0)
        have lc5 := lcell (d1)
        have lc6 := lcell (d2)
        have lc7 := lcell (d3)
        refine region_later (W := W0) (by kernel_rfl) (by kernel_rfl) (Below.refl _ _) ?_
        repeat (go_big_quiet_step (((first | (go_at_call 73; exact later_call (df_spec u d1' HU.out.1 HU.out.2.1 _)) | (go_at_call 73; exact later_call (df_spec v d2' HV.out.1 HV.out.2.1 _)) | (go_at_call 72; with_reducible exact later_same (sz_spec d1' s1 HU.out.2.2 _ (by omega) (by omega))) | (go_at_call 72; with_reducible exact later_same (sz_spec d2' s2 HV.out.2.2 _ (by omega) (by omega)))))))
        refine wpQuiet_nil ?_
        intro W1 hW1
        have HL : Hid (Below W0.heap.size W0 W1) := by obtain ⟨x, rfl⟩ := hW1; exact Lib.hid x.below
        clear hW1 lc0 lc1 lc2 lc3 lc4 lc5 lc6 lc7
        have HB2 := Lib.hid (bthen hB.out HL.out hB.out.size)
        clear c0 c1 c2 c3 d0 d1 d2 d3
        go_wp2_with fail
        go_roundw
        case rel => exact ⟨k + 1, k, by omega, by omega, by omega, by go_num, rfl, Lib.hid (HN.out.1 hc), HB2⟩
        case measure => simp [intOf]; omega
      · have hd9 : decide (s2 < s1) = false := decide_eq_false hc
        go_wp2_with fail
        have lc0 := lcell (c0)
        have lc1 := lcell (c1)
        have lc2 := lcell (c2)
        have lc3 := lcell (c3)
        have lc4 := lcell (d0)
        have lc5 := lcell (d1)
        have lc6 := lcell (d2)
        have lc7 := lcell (d3)
        refine region_later (W := W0) (by kernel_rfl) (by kernel_rfl) (Below.refl _ _) ?_
        repeat (go_big_quiet_step (((first | (go_at_call 73; exact later_call (df_spec u d1' HU.out.1 HU.out.2.1 _)) | (go_at_call 73; exact later_call (df_spec v d2' HV.out.1 HV.out.2.1 _)) | (go_at_call 72; with_reducible exact later_same (sz_spec d1' s1 HU.out.2.2 _ (by omega) (by omega))) | (go_at_call 72; with_reducible exact later_same (sz_spec d2' s2 HV.out.2.2 _ (by omega) (by omega)))))))
        refine wpQuiet_nil ?_
        intro W1 hW1
        have HL : Hid (Below W0.heap.size W0 W1) := by obtain ⟨x, rfl⟩ := hW1; exact Lib.hid x.below
        clear hW1 lc0 lc1 lc2 lc3 lc4 lc5 lc6 lc7
        have HB2 := Lib.hid (bthen hB.out HL.out hB.out.size)
        clear c0 c1 c2 c3 d0 d1 d2 d3
        go_wp2_with fail
        go_roundw
        case rel => exact ⟨k + 1, m, by omega, by omega, by omega, by go_num, rfl, Lib.hid (HN.out.2 hc), HB2⟩
        case measure => simp [intOf]; omega
    · obtain rfl : k = L.length := by omega
      have hmx : m = x := by rw [hM.out, HX.out]
      subst hmx
      obtain ⟨b, o, v, rfl, hbl, hL, c0, c1, c2, c3⟩ := (sds_atX HS.out hB.out).2 m hxl
      have HV : Hid (dfI v = d ∧ xdB v = true) := by have := HXV.out; rw [xdAt_at hL] at this; exact Lib.hid this
      clear hL
      go_wp2_with fail
      refine (df_spec v d HV.out.1 HV.out.2 _).mono ?_
      rintro e W3 ⟨rfl, hb⟩
      have HB3 := Lib.hid (bthen hB.out hb hB.out.size)
      clear hb
      go_wp2_with fail
      go_ret3
      exact num3_is HP.out HB3.out
end Go.Proofs.Ytlakdlghkniegaa
