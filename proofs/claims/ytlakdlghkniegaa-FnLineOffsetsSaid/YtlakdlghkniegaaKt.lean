/-
  Tolerance: contracts of impl.roundedUp at 100, fixedFor, NotTolerated, PassesTest, SmallestFixed, spec.l10Over, l10Test, NotTolerated, PassesTest, SmallestFixed over this translation. Conditions: stated at each theorem.
-/
import Derived.Test.YtlakdlghkniegaaKd
import Derived.Test.YtlakdlghkniegaaUp
import Derived.Test.YtlakdlghkniegaaTc
import Derived.Deep.DeepCutAuto
namespace Go.Proofs.Ytlakdlghkniegaa
open Go.RowKit
set_option linter.unusedVariables false

theorem upX_impl (a v : Int) (h : (a + 99) / 100 = v) (w : World) (h1 : -10000000 ≤ a) (h2 : a ≤ 10000000) :
    Calls Try.prog 88 #[.int .i64 a, .int .i64 100] w fun e w' => e = .returned (.int .i64 v) ∧ Below w.heap.size w w' := by
  have H : Hid ((-a) / 100 = -v) := by unfold Hid; omega
  have hv : -200000 ≤ v ∧ v ≤ 200000 := by omega
  obtain ⟨hv1, hv2⟩ := hv
  clear h
  go_enter Try.func88, Try.ntmps88
  go_wp2_with fail
  refine (floor_int (-a) 100 (-v) H.out _ (by omega) (by omega) (by omega) (by omega)).mono ?_
  rintro e w1 ⟨rfl, hb⟩
  have HT := Lib.hid hb
  clear hb
  go_wp2_with fail
  go_ret
  exact ⟨ret_int (by omega), HT.out⟩
theorem mul_bdX {p m : Int} (h1 : 0 ≤ p) (h2 : p ≤ 100) (h3 : 0 ≤ m) (h4 : m ≤ 20000) : 0 ≤ p * m ∧ p * m ≤ 2000000 := by
  refine ⟨Int.mul_nonneg h1 h3, ?_⟩
  have a1 : p * m ≤ 100 * m := Int.mul_le_mul_of_nonneg_right h2 h3
  omega
set_option maxRecDepth 20000 in
set_option maxHeartbeats 1600000 in
theorem fix_impl (v : XD) (p x : Int) (hx : (obI v p + 99) / 100 = x) (hv : xdB v = true) (h1 : 0 ≤ p) (h2 : p ≤ 100) (w : World) :
    Calls Try.prog 57 #[.agg #[.int .i64 v.ln, .int .i64 v.cr, .int .i64 v.mn, .int .i64 v.ck], .int .i64 p] w fun e w' => e = .returned (.int .i64 x) ∧ Below w.heap.size w w' := by
  obtain ⟨d, hd⟩ : ∃ d, dfI v = d := ⟨_, rfl⟩
  obtain ⟨s, hs⟩ : ∃ s, szI d = s := ⟨_, rfl⟩
  obtain ⟨_, _, ⟨m1, m2⟩, _⟩ := xdB_parts hv
  have b1 := dfI_bd hv
  have b0 := szI_nonneg (dfI v)
  rw [hd, hs] at b0
  rw [hd, hs] at b1
  obtain ⟨p1, p2, p3⟩ := b1
  have hob : obI v p = 100 * s - p * max 0 v.mn := by unfold obI; rw [hd, hs]
  rw [hob] at hx
  have HD := Lib.hid (And.intro hd (And.intro hv hs))
  have HX0 := box1 (w := w) (cs := #[.int .i64 v.ln, .int .i64 v.cr, .int .i64 v.mn, .int .i64 v.ck]) (T := 45) (Below.refl _ _)
  obtain ⟨W0, hW0⟩ : ∃ W0, W0 = w.alloc (.cells #[.int .i64 v.ln, .int .i64 v.cr, .int .i64 v.mn, .int .i64 v.ck] 45) := ⟨_, rfl⟩
  rw [← hW0] at HX0
  have a0 := HX0.2.at_ 0 _ rfl
  have a1 := HX0.2.at_ 1 _ rfl
  have a2 := HX0.2.at_ 2 _ rfl
  have a3 := HX0.2.at_ 3 _ rfl
  have HB0 := Lib.hid HX0.1
  have HE := Lib.hid hW0
  clear hW0 HX0 hd hs hv hob
  by_cases hmx : 0 < v.mn
  · rw [show max 0 v.mn = v.mn by omega] at hx
    obtain ⟨q1, q2⟩ := mul_bdX h1 h2 (show 0 ≤ v.mn by omega) m2
    have hmm : max 0 v.mn = v.mn := by omega
    have HMX := Lib.hid hmm
    have HX := Lib.hid hx
    clear hx
    go_enter Try.func57, Try.ntmps57
    go_wp2_with fail
    rw [← HE.out]
    have lc0 := lcell (a0)
    have lc1 := lcell (a1)
    have lc2 := lcell (a2)
    have lc3 := lcell (a3)
    refine region_later (W := W0) (by kernel_rfl) (by kernel_rfl) (Below.refl _ _) ?_
    repeat (go_big_quiet_step (((first | (go_at_call 71; exact later_call (df_impl v d HD.out.1 HD.out.2.1 _)) | (go_at_call 70; with_reducible exact later_same (szX_v d s HD.out.2.2 _ (by omega) (by omega))) | (go_at_call 88; exact later_call (upX_impl _ x (by first | exact HX.out | (have h9 := HX.out; simp only [Int.sub_zero] at h9 ⊢; exact h9)) _ (by omega) (by omega)))))))
    refine wpQuiet_nil ?_
    intro W1 hW1
    have HL : Hid (Below W0.heap.size W0 W1) := by obtain ⟨x, rfl⟩ := hW1; exact Lib.hid x.below
    clear hW1 lc0 lc1 lc2 lc3
    have HB2 := Lib.hid (bthen HB0.out HL.out HB0.out.size)
    go_wp2_with fail
    go_ret
    exact ⟨rfl, HB2.out⟩
  · rw [show max 0 v.mn = 0 by omega] at hx
    have hmm : max 0 v.mn = 0 := by omega
    have HMX := Lib.hid hmm
    rw [Int.mul_zero] at hx
    have HX := Lib.hid hx
    clear hx
    go_enter Try.func57, Try.ntmps57
    go_wp2_with fail
    rw [← HE.out]
    have lc0 := lcell (a0)
    have lc1 := lcell (a1)
    have lc2 := lcell (a2)
    have lc3 := lcell (a3)
    refine region_later (W := W0) (by kernel_rfl) (by kernel_rfl) (Below.refl _ _) ?_
    repeat (go_big_quiet_step (((first | (go_at_call 71; exact later_call (df_impl v d HD.out.1 HD.out.2.1 _)) | (go_at_call 70; with_reducible exact later_same (szX_v d s HD.out.2.2 _ (by omega) (by omega))) | (go_at_call 88; exact later_call (upX_impl _ x (by first | exact HX.out | (have h9 := HX.out; simp only [Int.sub_zero] at h9 ⊢; exact h9)) _ (by omega) (by omega)))))))
    refine wpQuiet_nil ?_
    intro W1 hW1
    have HL : Hid (Below W0.heap.size W0 W1) := by obtain ⟨x, rfl⟩ := hW1; exact Lib.hid x.below
    clear hW1 lc0 lc1 lc2 lc3
    have HB2 := Lib.hid (bthen HB0.out HL.out HB0.out.size)
    go_wp2_with fail
    go_ret
    exact ⟨rfl, HB2.out⟩
set_option maxRecDepth 20000 in
set_option maxHeartbeats 1600000 in
theorem over_spec (v : XD) (p x : Int) (hx : obI v p = x) (hv : xdB v = true) (h1 : 0 ≤ p) (h2 : p ≤ 100) (w : World) :
    Calls Try.prog 59 #[.agg #[.int .i64 v.ln, .int .i64 v.cr, .int .i64 v.mn, .int .i64 v.ck], .int .i64 p] w fun e w' => e = .returned (.int .i64 x) ∧ Below w.heap.size w w' := by
  obtain ⟨d, hd⟩ : ∃ d, dfI v = d := ⟨_, rfl⟩
  obtain ⟨s, hs⟩ : ∃ s, szI d = s := ⟨_, rfl⟩
  obtain ⟨_, _, ⟨m1, m2⟩, _⟩ := xdB_parts hv
  have b1 := dfI_bd hv
  have b0 := szI_nonneg (dfI v)
  rw [hd, hs] at b0
  rw [hd, hs] at b1
  obtain ⟨p1, p2, p3⟩ := b1
  have hob : obI v p = 100 * s - p * max 0 v.mn := by unfold obI; rw [hd, hs]
  rw [hob] at hx
  have HD := Lib.hid (And.intro hd (And.intro hv hs))
  have HX0 := box1 (w := w) (cs := #[.int .i64 v.ln, .int .i64 v.cr, .int .i64 v.mn, .int .i64 v.ck]) (T := 45) (Below.refl _ _)
  obtain ⟨W0, hW0⟩ : ∃ W0, W0 = w.alloc (.cells #[.int .i64 v.ln, .int .i64 v.cr, .int .i64 v.mn, .int .i64 v.ck] 45) := ⟨_, rfl⟩
  rw [← hW0] at HX0
  have a0 := HX0.2.at_ 0 _ rfl
  have a1 := HX0.2.at_ 1 _ rfl
  have a2 := HX0.2.at_ 2 _ rfl
  have a3 := HX0.2.at_ 3 _ rfl
  have HB0 := Lib.hid HX0.1
  have HE := Lib.hid hW0
  clear hW0 HX0 hd hs hv hob
  by_cases hmx : 0 < v.mn
  · rw [show max 0 v.mn = v.mn by omega] at hx
    obtain ⟨q1, q2⟩ := mul_bdX h1 h2 (show 0 ≤ v.mn by omega) m2
    have hmm : max 0 v.mn = v.mn := by omega
    have HMX := Lib.hid hmm
    have HX := Lib.hid hx
    clear hx
    go_enter Try.func59, Try.ntmps59
    go_wp2_with fail
    rw [← HE.out]
    have lc0 := lcell (a0)
    have lc1 := lcell (a1)
    have lc2 := lcell (a2)
    have lc3 := lcell (a3)
    refine region_later (W := W0) (by kernel_rfl) (by kernel_rfl) (Below.refl _ _) ?_
    repeat (go_big_quiet_step (((first | (go_at_call 73; exact later_call (df_spec v d HD.out.1 HD.out.2.1 _)) | (go_at_call 72; with_reducible exact later_same (sz_spec d s HD.out.2.2 _ (by omega) (by omega))) | (go_at_call 66; with_reducible exact later_same (mostX_v _ _ _ HMX.out _))))))
    refine wpQuiet_nil ?_
    intro W1 hW1
    have HL : Hid (Below W0.heap.size W0 W1) := by obtain ⟨x, rfl⟩ := hW1; exact Lib.hid x.below
    clear hW1 lc0 lc1 lc2 lc3
    have HB2 := Lib.hid (bthen HB0.out HL.out HB0.out.size)
    go_wp2_with fail
    go_ret
    exact ⟨ret_int (by first | exact HX.out | (have h9 := HX.out; simp only [Int.sub_zero] at h9 ⊢; exact h9)), HB2.out⟩
  · rw [show max 0 v.mn = 0 by omega] at hx
    have hmm : max 0 v.mn = 0 := by omega
    have HMX := Lib.hid hmm
    rw [Int.mul_zero] at hx
    have HX := Lib.hid hx
    clear hx
    go_enter Try.func59, Try.ntmps59
    go_wp2_with fail
    rw [← HE.out]
    have lc0 := lcell (a0)
    have lc1 := lcell (a1)
    have lc2 := lcell (a2)
    have lc3 := lcell (a3)
    refine region_later (W := W0) (by kernel_rfl) (by kernel_rfl) (Below.refl _ _) ?_
    repeat (go_big_quiet_step (((first | (go_at_call 73; exact later_call (df_spec v d HD.out.1 HD.out.2.1 _)) | (go_at_call 72; with_reducible exact later_same (sz_spec d s HD.out.2.2 _ (by omega) (by omega))) | (go_at_call 66; with_reducible exact later_same (mostX_v _ _ _ HMX.out _))))))
    refine wpQuiet_nil ?_
    intro W1 hW1
    have HL : Hid (Below W0.heap.size W0 W1) := by obtain ⟨x, rfl⟩ := hW1; exact Lib.hid x.below
    clear hW1 lc0 lc1 lc2 lc3
    have HB2 := Lib.hid (bthen HB0.out HL.out HB0.out.size)
    go_wp2_with fail
    go_ret
    exact ⟨ret_int (by first | exact HX.out | (have h9 := HX.out; simp only [Int.sub_zero] at h9 ⊢; exact h9)), HB2.out⟩
/-! ### NotTolerated -/
def tsB (L : List XD) (f p : Int) : Bool := xdsB L && inB f 0 500 && inB p 0 100
def ntI (L : List XD) (f p : Int) (k : Nat) : List Int := (ntK L f p k).map fun (i : Nat) => (i : Int)
def ntR (L : List XD) (f p : Int) : List Int := if tsB L f p then ntI L f p L.length else []
def NtPost (L : List XD) (f p : Int) (w : World) : Ending → World → Prop := IntsPost (ntR L f p) (fun j => (ntR L f p).getD j 0) (tsB L f p) w
theorem ts_1 {L : List XD} {f p : Int} (h : xdsB L = false) : tsB L f p = false := by unfold tsB; rw [h]; rfl
theorem ts_2 {L : List XD} {f p : Int} (h : inB f 0 500 = false) : tsB L f p = false := by unfold tsB; rw [h]; simp
theorem ts_3 {L : List XD} {f p : Int} (h : inB p 0 100 = false) : tsB L f p = false := by unfold tsB; rw [h]; simp
theorem ts_yes {L : List XD} {f p : Int} (h1 : xdsB L = true) (h2 : inB f 0 500 = true) (h3 : inB p 0 100 = true) : tsB L f p = true := by unfold tsB; rw [h1, h2, h3]; rfl
theorem ntI_len (L : List XD) (f p : Int) (k : Nat) : (ntI L f p k).length = (ntK L f p k).length := by simp [ntI]
theorem ntI_hit {L : List XD} {f p : Int} {k : Nat} {v : XD} (hv : L[k]? = some v) (h : 100 * f < obI v p) : ntI L f p (k + 1) = ntI L f p k ++ [(k : Int)] := by
  unfold ntI
  rw [ntK_succ]
  unfold ntB
  rw [xdAt_at hv, decide_eq_true h]
  simp
theorem ntI_miss {L : List XD} {f p : Int} {k : Nat} {v : XD} (hv : L[k]? = some v) (h : ¬ 100 * f < obI v p) : ntI L f p (k + 1) = ntI L f p k := by
  unfold ntI
  rw [ntK_succ]
  unfold ntB
  rw [xdAt_at hv, decide_eq_false h]
  simp
theorem ntR_len (L : List XD) (f p : Int) : (ntR L f p).length ≤ 10 := by
  unfold ntR
  split
  · rename_i h
    unfold tsB at h
    simp only [Bool.and_eq_true] at h
    have h1 := (good10_of h.1.1).max
    rw [ntI_len]
    exact Nat.le_trans (ntK_len L f p _) h1
  · simp
theorem nt_no {L : List XD} {f p : Int} {w w' : World} {v : Value} (h : tsB L f p = false) (hc : Col w 3 1 v 0 (ivs []) w') : NtPost L f p w (.returned (.tuple #[v, .bool false])) w' := by
  have e : ntR L f p = [] := by unfold ntR; rw [h]; rfl
  unfold NtPost
  rw [e, h]
  exact ints_of_col hc rfl
theorem nt_yes {L : List XD} {f p : Int} {w w' : World} {v : Value} {m : Nat} (h : tsB L f p = true) (hm : m = (ntI L f p L.length).length) (hc : Col w 3 1 v m (ivs (ntI L f p L.length)) w') : NtPost L f p w (.returned (.tuple #[v, .bool true])) w' := by
  have e : ntR L f p = ntI L f p L.length := by unfold ntR; rw [h]; rfl
  unfold NtPost
  rw [e, h]
  exact ints_of_col hc hm.symm
theorem one_newX (w : World) (x : Value) (T : TypeId) : ∀ (j : Nat) (u : Value), [x][j]? = some u → (w.alloc (.cells #[x] T)).cell? ((⟨w.heap.size, 0, none⟩ : Addr).add j) = some u := by
  intro j u hu
  match j, hu with
  | 0, hu => obtain rfl : x = u := by simpa using hu
             simp [Addr.add]
set_option maxHeartbeats 1600000 in
theorem test_spec (A : Option Addr) (n c : Nat) (L : List XD) (f p : Int) (r : Bool) (hr : tsB L f p = r) (w : World) (hs : SdsX w w.heap.size A n L) (hm : n ≤ maxLen) :
    Calls Try.prog 58 #[.slice A n c, .int .i64 f, .int .i64 p] w fun e w' => e = .returned (.bool r) ∧ Below w.heap.size w w' := by
  have HS := Lib.hid hs
  clear hs
  rcases h1 : xdsB L with _ | _
  · obtain rfl : r = false := hr.symm.trans (ts_1 h1)
    have H1 := Lib.hid h1
    clear h1 hr
    go_enter Try.func58, Try.ntmps58
    go_wp2_with fail
    refine (xgood_spec_v _ _ _ L _ H1.out _ HS.out hm).mono ?_
    rintro e w1 ⟨rfl, hb⟩
    have HB := Lib.hid hb
    clear hb
    go_wp2_with fail
    go_ret
    exact ⟨rfl, HB.out⟩
  have H1 := Lib.hid h1
  rcases h2 : inB f 0 500 with _ | _
  · obtain rfl : r = false := hr.symm.trans (ts_2 h2)
    have H2 := Lib.hid h2
    clear h1 h2 hr
    go_enter Try.func58, Try.ntmps58
    go_wp2_with fail
    refine (xgood_spec_v _ _ _ L _ H1.out _ HS.out hm).mono ?_
    rintro e w1 ⟨rfl, hb⟩
    have HB := Lib.hid hb
    clear hb
    go_wp2_with fail
    refine (l1In_v _ _ _ _ H2.out _).mono ?_
    rintro e w' ⟨rfl, rfl⟩
    go_wp2_with fail
    go_ret
    exact ⟨rfl, HB.out⟩
  have H2 := Lib.hid h2
  obtain ⟨d, h3⟩ : ∃ d, inB p 0 100 = d := ⟨_, rfl⟩
  obtain rfl : d = r := by
    rw [← hr]
    unfold tsB
    rw [h1, h2, h3]
    rfl
  have H3 := Lib.hid h3
  clear h1 h2 h3 hr
  go_enter Try.func58, Try.ntmps58
  go_wp2_with fail
  refine (xgood_spec_v _ _ _ L _ H1.out _ HS.out hm).mono ?_
  rintro e w1 ⟨rfl, hb⟩
  have HB := Lib.hid hb
  clear hb
  go_wp2_with fail
  refine (l1In_v _ _ _ _ H2.out _).mono ?_
  rintro e w' ⟨rfl, rfl⟩
  go_wp2_with fail
  refine (l1In_v _ _ _ _ H3.out _).mono ?_
  rintro e w' ⟨rfl, rfl⟩
  go_wp2_with fail
  go_ret
  exact ⟨ret_bool (by first | rfl | simp), HB.out⟩
set_option maxRecDepth 20000 in
set_option maxHeartbeats 6400000 in
theorem nt_impl (A : Option Addr) (n c : Nat) (L : List XD) (f p : Int) (w : World) (hs : SdsX w w.heap.size A n L) (hm : n ≤ maxLen) (hcap : n ≤ c) :
    Calls Try.prog 16 #[.slice A n c, .int .i64 f, .int .i64 p] w (NtPost L f p w) := by
  obtain rfl := hs.1
  have HS := Lib.hid hs
  clear hs
  obtain ⟨i0, hi, hz0, hz1, hz2⟩ := info_parts info3
  have HI := Lib.hid (And.intro hi (And.intro hz0 (And.intro hz1 hz2)))
  clear hi hz0 hz1 hz2
  rcases h1 : xdsB L with _ | _
  · have H1 := Lib.hid h1
    clear h1
    go_enter Try.func16, Try.ntmps16
    go_wp2_with fail
    refine (xds_impl_v _ _ _ L _ H1.out _ HS.out hm hcap).mono ?_
    rintro e w1 ⟨rfl, hb⟩
    have HB1 := Lib.hid hb
    clear hb
    go_wp2_with fail
    go_ret2
    exact nt_no (ts_1 H1.out) (col_start 3 1 HB1.out)
  have H1 := Lib.hid h1
  rcases h2 : inB f 0 500 with _ | _
  · have H2 := Lib.hid h2
    clear h1 h2
    go_enter Try.func16, Try.ntmps16
    go_wp2_with fail
    refine (xds_impl_v _ _ _ L _ H1.out _ HS.out hm hcap).mono ?_
    rintro e w1 ⟨rfl, hb⟩
    have HB1 := Lib.hid hb
    clear hb
    go_wp2_with fail
    refine (within_v _ _ _ _ H2.out _).mono ?_
    rintro e w' ⟨rfl, rfl⟩
    go_wp2_with fail
    go_ret2
    exact nt_no (ts_2 H2.out) (col_start 3 1 HB1.out)
  have H2 := Lib.hid h2
  rcases h3 : inB p 0 100 with _ | _
  · have H3 := Lib.hid h3
    clear h1 h2 h3
    go_enter Try.func16, Try.ntmps16
    go_wp2_with fail
    refine (xds_impl_v _ _ _ L _ H1.out _ HS.out hm hcap).mono ?_
    rintro e w1 ⟨rfl, hb⟩
    have HB1 := Lib.hid hb
    clear hb
    go_wp2_with fail
    refine (within_v _ _ _ _ H2.out _).mono ?_
    rintro e w' ⟨rfl, rfl⟩
    go_wp2_with fail
    refine (pctX_impl _ _ H3.out _).mono ?_
    rintro e w' ⟨rfl, rfl⟩
    go_wp2_with fail
    go_ret2
    exact nt_no (ts_3 H3.out) (col_start 3 1 HB1.out)
  have H3 := Lib.hid h3
  have HG := Lib.hid (good10_of h1)
  have h10 := (good10_of h1).max
  obtain ⟨f1, f2⟩ := inB_yes h2
  obtain ⟨p1, p2⟩ := inB_yes h3
  have HT := Lib.hid (ts_yes h1 h2 h3)
  clear h1 h2 h3
  go_enter Try.func16, Try.ntmps16
  go_wp2_with fail
  refine (xds_impl_v _ _ _ L _ H1.out _ HS.out hm hcap).mono ?_
  rintro e w1 ⟨rfl, hb⟩
  have HC0 : Hid (Col w 3 1 (.slice (some ⟨w1.heap.size, 0, none⟩) 0 0) 0 (ivs (ntI L f p 0)) (w1.alloc (.cells #[] 3))) := Lib.hid (col_start 3 1 hb)
  clear hb
  go_wp2_with fail
  refine (within_v _ _ _ _ H2.out _).mono ?_
  rintro e w' ⟨rfl, rfl⟩
  go_wp2_with fail
  refine (pctX_impl _ _ H3.out _).mono ?_
  rintro e w' ⟨rfl, rfl⟩
  go_wp2_with fail
  go_loopw [8, 28] (fun s z wr => ∃ (k m : Nat) (v : Value), k ≤ L.length ∧ m ≤ k ∧ z = .int .i64 k ∧ s = v ∧ Hid (m = (ntI L f p k).length) ∧ Hid (Col w 3 1 v m (ivs (ntI L f p k)) wr)) (fun _ z _ => L.length - (intOf z).toNat)
  case atStart => exact ⟨0, 0, _, Nat.zero_le _, Nat.zero_le _, rfl, rfl, Lib.hid rfl, HC0⟩
  case round =>
    obtain ⟨k, m, v0, hk, hmk, rfl, hv0, hM, hC⟩ := hrel
    have hv0' := hv0.symm
    clear hv0
    subst hv0'
    by_cases hlt : k < L.length
    · obtain ⟨b, o, v, rfl, hbl, hL, c0, c1, c2, c3⟩ := (sds_atX HS.out hC.out.2).2 k hlt
      have hxv := HG.out.one k hlt
      rw [xdAt_at hL] at hxv
      have ho := obI_bd hxv (p := p) ⟨p1, p2⟩
      obtain ⟨x, hx⟩ : ∃ x, (obI v p + 99) / 100 = x := ⟨_, rfl⟩
      have hxb : -30000 ≤ x ∧ x ≤ 30000 := by omega
      obtain ⟨hxb1, hxb2⟩ := hxb
      have HXV := Lib.hid (And.intro hx hxv)
      have HB1 := Lib.hid (hC.out.next (box1 (w := wr) (cs := #[.int .i64 v.ln, .int .i64 v.cr, .int .i64 v.mn, .int .i64 v.ck]) (T := 45) (Below.refl _ _)).1)
      by_cases hc : f < x
      · have HN9 := Lib.hid (ntI_hit (f := f) hL (show 100 * f < obI v p by omega))
        have hdx : decide (x > f) = true := decide_eq_true hc
        clear hL hxv hx ho
        go_wp2_with fail
        refine (fix_impl v p x HXV.out.1 HXV.out.2 p1 p2 _).mono ?_
        rintro e W9 ⟨rfl, hb⟩
        have HR9 := Lib.hid (HB1.out.next hb)
        clear hb c0 c1 c2 c3
        go_wp2_with (at_builtin; go_loud (refine wpList_append_own_at _ rfl _ _ 27 rfl w.heap.size 3 i0 (.int .i64 0) 1 8 Try.underlying27 HI.out.1 HI.out.2.1 HI.out.2.2.1 HI.out.2.2.2 rfl (by decide) _ _ _ rfl (HR9.out.1.alloc _) ⟨W9.heap.size, 0, none⟩ 1 1 [.int .i64 k] rfl rfl (one_newX _ _ _) (by simp [Value.oneCell']) (by unfold maxLen; omega) (by omega) (by have := HR9.out.2.size; simp; omega) ?_; intro v' w5 hown' hgrow _ hfr; have HN := Lib.hid (HR9.out.step hown' hgrow); clear hown' hgrow hfr))
        have HC2 : Hid (Col w 3 1 v' (m + 1) (ivs (ntI L f p (k + 1))) w5) := by unfold Hid; rw [HN9.out, ivs_snoc]; exact HN.out
        have HM2 : Hid (m + 1 = (ntI L f p (k + 1)).length) := by unfold Hid; rw [HN9.out, List.length_append, ← hM.out]; rfl
        clear HN
        go_roundw
        case rel => exact ⟨k + 1, m + 1, _, by omega, by omega, by go_num, rfl, HM2, HC2⟩
        case measure => simp [intOf]; omega
      · have HN9 := Lib.hid (ntI_miss (f := f) hL (show ¬ 100 * f < obI v p by omega))
        have hdx : decide (x > f) = false := decide_eq_false hc
        clear hL hxv hx ho
        go_wp2_with fail
        refine (fix_impl v p x HXV.out.1 HXV.out.2 p1 p2 _).mono ?_
        rintro e W9 ⟨rfl, hb⟩
        have HR9 : Hid (Col w 3 1 v0 m (ivs (ntI L f p (k + 1))) W9) := by unfold Hid; rw [HN9.out]; exact HB1.out.next hb
        have HM2 : Hid (m = (ntI L f p (k + 1)).length) := by unfold Hid; rw [HN9.out]; exact hM.out
        clear hb c0 c1 c2 c3
        go_wp2_with fail
        go_roundw
        case rel => exact ⟨k + 1, m, _, by omega, by omega, by go_num, rfl, HM2, HR9⟩
        case measure => simp [intOf]; omega
    · obtain rfl : k = L.length := by omega
      have HP := Lib.hid (nt_yes HT.out hM.out hC.out)
      go_wp2_with fail
      go_ret2
      exact HP.out
set_option maxRecDepth 20000 in
set_option maxHeartbeats 6400000 in
theorem nt_spec (A : Option Addr) (n c : Nat) (L : List XD) (f p : Int) (w : World) (hs : SdsX w w.heap.size A n L) (hm : n ≤ maxLen) :
    Calls Try.prog 17 #[.slice A n c, .int .i64 f, .int .i64 p] w (NtPost L f p w) := by
  obtain rfl := hs.1
  have HS := Lib.hid hs
  clear hs
  obtain ⟨i0, hi, hz0, hz1, hz2⟩ := info_parts info3
  have HI := Lib.hid (And.intro hi (And.intro hz0 (And.intro hz1 hz2)))
  clear hi hz0 hz1 hz2
  have HC0 : Hid (Col w 3 1 (.slice (some ⟨w.heap.size, 0, none⟩) 0 0) 0 (ivs (ntI L f p 0)) (w.alloc (.cells #[] 3))) := Lib.hid (col_start 3 1 (Below.refl _ _))
  have HS0 := Lib.hid (sds_atX HS.out HC0.out.2)
  rcases h1 : tsB L f p with _ | _
  · have H1 := Lib.hid h1
    clear h1
    go_enter Try.func17, Try.ntmps17
    go_wp2_with fail
    refine (test_spec _ _ _ L f p _ H1.out _ HS0.out hm).mono ?_
    rintro e w1 ⟨rfl, hb⟩
    have HP := Lib.hid (nt_no H1.out (HC0.out.next hb))
    clear hb
    go_wp2_with fail
    go_ret2
    exact HP.out
  have H1 := Lib.hid h1
  have hparts : (xdsB L = true ∧ inB f 0 500 = true) ∧ inB p 0 100 = true := by
    have := h1
    unfold tsB at this
    simpa only [Bool.and_eq_true] using this
  have HG := Lib.hid (good10_of hparts.1.1)
  have h10 := (good10_of hparts.1.1).max
  obtain ⟨f1, f2⟩ := inB_yes hparts.1.2
  obtain ⟨p1, p2⟩ := inB_yes hparts.2
  clear h1 hparts
  go_enter Try.func17, Try.ntmps17
  go_wp2_with fail
  refine (test_spec _ _ _ L f p _ H1.out _ HS0.out hm).mono ?_
  rintro e w1 ⟨rfl, hb⟩
  have HC1 := Lib.hid (HC0.out.next hb)
  clear hb
  go_wp2_with fail
  go_loopw [8, 9] (fun s z wr => ∃ (k m : Nat) (v : Value), k ≤ L.length ∧ m ≤ k ∧ z = .int .i64 k ∧ s = v ∧ Hid (m = (ntI L f p k).length) ∧ Hid (Col w 3 1 v m (ivs (ntI L f p k)) wr)) (fun _ z _ => L.length - (intOf z).toNat)
  case atStart => exact ⟨0, 0, _, Nat.zero_le _, Nat.zero_le _, rfl, rfl, Lib.hid rfl, HC1⟩
  case round =>
    obtain ⟨k, m, v0, hk, hmk, rfl, hv0, hM, hC⟩ := hrel
    have hv0' := hv0.symm
    clear hv0
    subst hv0'
    by_cases hlt : k < L.length
    · obtain ⟨b, o, v, rfl, hbl, hL, c0, c1, c2, c3⟩ := (sds_atX HS.out hC.out.2).2 k hlt
      have hxv := HG.out.one k hlt
      rw [xdAt_at hL] at hxv
      have ho := obI_bd hxv (p := p) ⟨p1, p2⟩
      obtain ⟨x, hx⟩ : ∃ x, obI v p = x := ⟨_, rfl⟩
      rw [hx] at ho
      obtain ⟨hxb1, hxb2⟩ := ho
      have HXV := Lib.hid (And.intro hx hxv)
      by_cases hc : 100 * f < x
      · have HN9 := Lib.hid (ntI_hit (f := f) hL (show 100 * f < obI v p by omega))
        have hdx : decide (x > 100 * f) = true := decide_eq_true hc
        clear hL hxv hx
        go_wp2_with fail
        refine (over_spec v p x HXV.out.1 HXV.out.2 p1 p2 _).mono ?_
        rintro e W9 ⟨rfl, hb⟩
        have HR9 := Lib.hid (hC.out.next hb)
        clear hb c0 c1 c2 c3
        go_wp2_with (at_builtin; go_loud (refine wpList_append_own_at _ rfl _ _ 27 rfl w.heap.size 3 i0 (.int .i64 0) 1 8 Try.underlying27 HI.out.1 HI.out.2.1 HI.out.2.2.1 HI.out.2.2.2 rfl (by decide) _ _ _ rfl (HR9.out.1.alloc _) ⟨W9.heap.size, 0, none⟩ 1 1 [.int .i64 k] rfl rfl (one_newX _ _ _) (by simp [Value.oneCell']) (by unfold maxLen; omega) (by omega) (by have := HR9.out.2.size; simp; omega) ?_; intro v' w5 hown' hgrow _ hfr; have HN := Lib.hid (HR9.out.step hown' hgrow); clear hown' hgrow hfr))
        have HC2 : Hid (Col w 3 1 v' (m + 1) (ivs (ntI L f p (k + 1))) w5) := by unfold Hid; rw [HN9.out, ivs_snoc]; exact HN.out
        have HM2 : Hid (m + 1 = (ntI L f p (k + 1)).length) := by unfold Hid; rw [HN9.out, List.length_append, ← hM.out]; rfl
        clear HN
        go_roundw
        case rel => exact ⟨k + 1, m + 1, _, by omega, by omega, by go_num, rfl, HM2, HC2⟩
        case measure => simp [intOf]; omega
      · have HN9 := Lib.hid (ntI_miss (f := f) hL (show ¬ 100 * f < obI v p by omega))
        have hdx : decide (x > 100 * f) = false := decide_eq_false hc
        clear hL hxv hx
        go_wp2_with fail
        refine (over_spec v p x HXV.out.1 HXV.out.2 p1 p2 _).mono ?_
        rintro e W9 ⟨rfl, hb⟩
        have HR9 : Hid (Col w 3 1 v0 m (ivs (ntI L f p (k + 1))) W9) := by unfold Hid; rw [HN9.out]; exact hC.out.next hb
        have HM2 : Hid (m = (ntI L f p (k + 1)).length) := by unfold Hid; rw [HN9.out]; exact hM.out
        clear hb c0 c1 c2 c3
        go_wp2_with fail
        go_roundw
        case rel => exact ⟨k + 1, m, _, by omega, by omega, by go_num, rfl, HM2, HR9⟩
        case measure => simp [intOf]; omega
    · obtain rfl : k = L.length := by omega
      have HP := Lib.hid (nt_yes H1.out hM.out hC.out)
      go_wp2_with fail
      go_ret2
      exact HP.out
/-! ### PassesTest -/
def paK (L : List XD) (f p s : Int) : Bool := tsB L f p && decide (0 < L.length) && inB s 0 100
def paR (L : List XD) (f p s : Int) : Bool := paK L f p s && decide (s * L.length ≤ 100 * ((L.length : Int) - (ntR L f p).length))
def BoolX (x K : Bool) (w : World) (e : Ending) (w' : World) : Prop := e = .returned (.tuple #[.bool x, .bool K]) ∧ Below w.heap.size w w'
theorem pa_no {L : List XD} {f p s : Int} {w w' : World} (h : paK L f p s = false) (hb : Below w.heap.size w w') : BoolX (paR L f p s) (paK L f p s) w (.returned (.tuple #[.bool false, .bool false])) w' := by
  unfold paR
  rw [h]
  exact ⟨rfl, hb⟩
theorem pa_yes {L : List XD} {f p s : Int} {w w' : World} {r : Bool} (h : paK L f p s = true) (hr : decide (s * L.length ≤ 100 * ((L.length : Int) - (ntR L f p).length)) = r) (hb : Below w.heap.size w w') : BoolX (paR L f p s) (paK L f p s) w (.returned (.tuple #[.bool r, .bool true])) w' := by
  unfold paR
  rw [h, hr]
  exact ⟨rfl, hb⟩
theorem pa_1 {L : List XD} {f p s : Int} (h : tsB L f p = false) : paK L f p s = false := by unfold paK; rw [h]; rfl
theorem pa_2 {L : List XD} {f p s : Int} (h : L.length = 0) : paK L f p s = false := by unfold paK; rw [decide_eq_false (show ¬ 0 < L.length by omega)]; simp
theorem pa_3 {L : List XD} {f p s : Int} (h : inB s 0 100 = false) : paK L f p s = false := by unfold paK; rw [h]; simp
theorem pa_4 {L : List XD} {f p s : Int} (h1 : tsB L f p = true) (h2 : 0 < L.length) (h3 : inB s 0 100 = true) : paK L f p s = true := by unfold paK; rw [h1, decide_eq_true h2, h3]; rfl
theorem ts_len {L : List XD} {f p : Int} (h : tsB L f p = true) : L.length ≤ 10 := by
  unfold tsB at h
  simp only [Bool.and_eq_true] at h
  exact (good10_of h.1.1).max
set_option maxRecDepth 20000 in
set_option maxHeartbeats 3200000 in
theorem pass_impl (A : Option Addr) (n c : Nat) (L : List XD) (f p s : Int) (w : World) (hs : SdsX w w.heap.size A n L) (hm : n ≤ maxLen) (hcap : n ≤ c) :
    Calls Try.prog 26 #[.slice A n c, .int .i64 f, .int .i64 p, .int .i64 s] w (BoolX (paR L f p s) (paK L f p s) w) := by
  obtain rfl := hs.1
  have HS := Lib.hid hs
  have hrl := ntR_len L f p
  obtain ⟨R, hR⟩ : ∃ R, ntR L f p = R := ⟨_, rfl⟩
  have HRR := Lib.hid hR
  rw [hR] at hrl
  clear hs hR
  rcases h1 : tsB L f p with _ | _
  · have H1 := Lib.hid h1
    clear h1
    go_enter Try.func26, Try.ntmps26
    go_wp2_with fail
    refine (nt_impl _ _ _ L f p _ HS.out hm hcap).mono ?_
    unfold NtPost IntsPost
    rw [HRR.out, H1.out]
    rintro e w1 ⟨A1, c1, rfl, ho, hb⟩
    have HB1 := Lib.hid hb
    clear hb ho
    go_wp2_with fail
    go_ret2
    exact pa_no (pa_1 H1.out) HB1.out
  have H1 := Lib.hid h1
  have h10 := ts_len h1
  by_cases h0 : L.length = 0
  · have HZ := Lib.hid h0
    have hz : (((L.length : Nat) : Int) == 0) = true := beq_iff_eq.2 (by omega)
    clear h0 h1
    go_enter Try.func26, Try.ntmps26
    go_wp2_with fail
    refine (nt_impl _ _ _ L f p _ HS.out hm hcap).mono ?_
    unfold NtPost IntsPost
    rw [HRR.out, H1.out]
    rintro e w1 ⟨A1, c1, rfl, ho, hb⟩
    have HB1 := Lib.hid hb
    clear hb ho
    go_wp2_with fail
    go_ret2
    exact pa_no (pa_2 HZ.out) HB1.out
  have hz : (((L.length : Nat) : Int) == 0) = false := beq_eq_false_iff_ne.2 (by omega)
  rcases h3 : inB s 0 100 with _ | _
  · have H3 := Lib.hid h3
    clear h1 h3
    go_enter Try.func26, Try.ntmps26
    go_wp2_with fail
    refine (nt_impl _ _ _ L f p _ HS.out hm hcap).mono ?_
    unfold NtPost IntsPost
    rw [HRR.out, H1.out]
    rintro e w1 ⟨A1, c1, rfl, ho, hb⟩
    have HB1 := Lib.hid hb
    clear hb ho
    go_wp2_with fail
    refine (pctX_impl _ _ H3.out _).mono ?_
    rintro e w' ⟨rfl, rfl⟩
    go_wp2_with fail
    go_ret2
    exact pa_no (pa_3 H3.out) HB1.out
  have H3 := Lib.hid h3
  obtain ⟨s1, s2⟩ := inB_yes h3
  obtain ⟨q1, q2⟩ := mul_bdX (m := (L.length : Int)) s1 s2 (by omega) (by omega)
  have HK := Lib.hid (pa_4 h1 (show 0 < L.length by omega) h3)
  obtain ⟨r, hr⟩ : ∃ r, decide (s * L.length ≤ 100 * ((L.length : Int) - R.length)) = r := ⟨_, rfl⟩
  have HR : Hid (decide (s * L.length ≤ 100 * ((L.length : Int) - (ntR L f p).length)) = r) := by rw [HRR.out]; exact Lib.hid hr
  have HR2 := Lib.hid hr
  clear h1 h3 hr
  go_enter Try.func26, Try.ntmps26
  go_wp2_with fail
  refine (nt_impl _ _ _ L f p _ HS.out hm hcap).mono ?_
  unfold NtPost IntsPost
  rw [HRR.out, H1.out]
  rintro e w1 ⟨A1, c1, rfl, ho, hb⟩
  have HB1 := Lib.hid hb
  clear hb ho
  go_wp2_with fail
  refine (pctX_impl _ _ H3.out _).mono ?_
  rintro e w' ⟨rfl, rfl⟩
  go_wp2_with fail
  go_ret2
  exact pa_yes HK.out (by rw [HRR.out]) HB1.out
set_option maxRecDepth 20000 in
set_option maxHeartbeats 3200000 in
theorem pass_spec (A : Option Addr) (n c : Nat) (L : List XD) (f p s : Int) (w : World) (hs : SdsX w w.heap.size A n L) (hm : n ≤ maxLen) :
    Calls Try.prog 27 #[.slice A n c, .int .i64 f, .int .i64 p, .int .i64 s] w (BoolX (paR L f p s) (paK L f p s) w) := by
  obtain rfl := hs.1
  have HS := Lib.hid hs
  have hrl := ntR_len L f p
  obtain ⟨R, hR⟩ : ∃ R, ntR L f p = R := ⟨_, rfl⟩
  have HRR := Lib.hid hR
  rw [hR] at hrl
  clear hs hR
  rcases h1 : tsB L f p with _ | _
  · have H1 := Lib.hid h1
    clear h1
    go_enter Try.func27, Try.ntmps27
    go_wp2_with fail
    refine (nt_spec _ _ _ L f p _ HS.out hm).mono ?_
    unfold NtPost IntsPost
    rw [HRR.out, H1.out]
    rintro e w1 ⟨A1, c1, rfl, ho, hb⟩
    have HB1 := Lib.hid hb
    clear hb ho
    go_wp2_with fail
    go_ret2
    exact pa_no (pa_1 H1.out) HB1.out
  have H1 := Lib.hid h1
  have h10 := ts_len h1
  by_cases h0 : L.length = 0
  · have HZ := Lib.hid h0
    have hz : (((L.length : Nat) : Int) == 0) = true := beq_iff_eq.2 (by omega)
    clear h0 h1
    go_enter Try.func27, Try.ntmps27
    go_wp2_with fail
    refine (nt_spec _ _ _ L f p _ HS.out hm).mono ?_
    unfold NtPost IntsPost
    rw [HRR.out, H1.out]
    rintro e w1 ⟨A1, c1, rfl, ho, hb⟩
    have HB1 := Lib.hid hb
    clear hb ho
    go_wp2_with fail
    go_ret2
    exact pa_no (pa_2 HZ.out) HB1.out
  have hz : (((L.length : Nat) : Int) == 0) = false := beq_eq_false_iff_ne.2 (by omega)
  rcases h3 : inB s 0 100 with _ | _
  · have H3 := Lib.hid h3
    clear h1 h3
    go_enter Try.func27, Try.ntmps27
    go_wp2_with fail
    refine (nt_spec _ _ _ L f p _ HS.out hm).mono ?_
    unfold NtPost IntsPost
    rw [HRR.out, H1.out]
    rintro e w1 ⟨A1, c1, rfl, ho, hb⟩
    have HB1 := Lib.hid hb
    clear hb ho
    go_wp2_with fail
    refine (l1In_v _ _ _ _ H3.out _).mono ?_
    rintro e w' ⟨rfl, rfl⟩
    go_wp2_with fail
    go_ret2
    exact pa_no (pa_3 H3.out) HB1.out
  have H3 := Lib.hid h3
  obtain ⟨s1, s2⟩ := inB_yes h3
  obtain ⟨q1, q2⟩ := mul_bdX (m := (L.length : Int)) s1 s2 (by omega) (by omega)
  have HK := Lib.hid (pa_4 h1 (show 0 < L.length by omega) h3)
  obtain ⟨r, hr⟩ : ∃ r, decide (s * L.length ≤ 100 * ((L.length : Int) - R.length)) = r := ⟨_, rfl⟩
  have HR : Hid (decide (s * L.length ≤ 100 * ((L.length : Int) - (ntR L f p).length)) = r) := by rw [HRR.out]; exact Lib.hid hr
  have HR2 := Lib.hid hr
  clear h1 h3 hr
  go_enter Try.func27, Try.ntmps27
  go_wp2_with fail
  refine (nt_spec _ _ _ L f p _ HS.out hm).mono ?_
  unfold NtPost IntsPost
  rw [HRR.out, H1.out]
  rintro e w1 ⟨A1, c1, rfl, ho, hb⟩
  have HB1 := Lib.hid hb
  clear hb ho
  go_wp2_with fail
  refine (l1In_v _ _ _ _ H3.out _).mono ?_
  rintro e w' ⟨rfl, rfl⟩
  go_wp2_with fail
  go_ret2
  exact pa_yes HK.out (by rw [HRR.out]) HB1.out
/-! ### SmallestFixed -/
def smK9 (L : List XD) (p : Int) : Bool := xdsB L && inB p 0 100
def smR (L : List XD) (p : Int) : Int := if smK9 L p then smF L p L.length else 0
def Num2X (x : Int) (K : Bool) (w : World) (e : Ending) (w' : World) : Prop := e = .returned (.tuple #[.int .i64 x, .bool K]) ∧ Below w.heap.size w w'
theorem sm_no9 {L : List XD} {p : Int} {w w' : World} (h : smK9 L p = false) (hb : Below w.heap.size w w') : Num2X (smR L p) (smK9 L p) w (.returned (.tuple #[.int .i64 0, .bool false])) w' := by
  unfold smR
  rw [h]
  exact ⟨rfl, hb⟩
theorem sm_yes9 {L : List XD} {p x : Int} {w w' : World} (h : smK9 L p = true) (hx : x = smF L p L.length) (hb : Below w.heap.size w w') : Num2X (smR L p) (smK9 L p) w (.returned (.tuple #[.int .i64 x, .bool true])) w' := by
  unfold smR
  rw [h, hx]
  exact ⟨rfl, hb⟩
theorem smF_step {L : List XD} {p x : Int} {k : Nat} {v : XD} (hv : L[k]? = some v) (hx : (obI v p + 99) / 100 = x) {s : Int} (hs : s = smF L p k) : max s x = smF L p (k + 1) := by
  have h0 := smF_nonneg L p k
  rw [smF, ← hs, xdAt_at hv]
  rw [← hs] at h0
  unfold upI
  omega
theorem smF_step2 {L : List XD} {p x : Int} {k : Nat} {v : XD} (hv : L[k]? = some v) (hx : (max 0 (obI v p) + 99) / 100 = x) {s : Int} (hs : s = smF L p k) : max s x = smF L p (k + 1) := by
  rw [smF, ← hs, xdAt_at hv]
  unfold upI
  rw [hx]
set_option maxRecDepth 20000 in
set_option maxHeartbeats 3200000 in
theorem small_impl (A : Option Addr) (n c : Nat) (L : List XD) (p : Int) (w : World) (hs : SdsX w w.heap.size A n L) (hm : n ≤ maxLen) (hcap : n ≤ c) :
    Calls Try.prog 23 #[.slice A n c, .int .i64 p] w (Num2X (smR L p) (smK9 L p) w) := by
  obtain rfl := hs.1
  have HS := Lib.hid hs
  clear hs
  rcases h1 : xdsB L with _ | _
  · have H1 := Lib.hid h1
    have HK : Hid (smK9 L p = false) := by unfold Hid smK9; rw [h1]; rfl
    clear h1
    go_enter Try.func23, Try.ntmps23
    go_wp2_with fail
    refine (xds_impl_v _ _ _ L _ H1.out _ HS.out hm hcap).mono ?_
    rintro e w1 ⟨rfl, hb⟩
    have HB1 := Lib.hid hb
    clear hb
    go_wp2_with fail
    go_ret2
    exact sm_no9 HK.out HB1.out
  have H1 := Lib.hid h1
  rcases h3 : inB p 0 100 with _ | _
  · have H3 := Lib.hid h3
    have HK : Hid (smK9 L p = false) := by unfold Hid smK9; rw [h3, Bool.and_false]
    clear h1 h3
    go_enter Try.func23, Try.ntmps23
    go_wp2_with fail
    refine (xds_impl_v _ _ _ L _ H1.out _ HS.out hm hcap).mono ?_
    rintro e w1 ⟨rfl, hb⟩
    have HB1 := Lib.hid hb
    clear hb
    go_wp2_with fail
    refine (pctX_impl _ _ H3.out _).mono ?_
    rintro e w' ⟨rfl, rfl⟩
    go_wp2_with fail
    go_ret2
    exact sm_no9 HK.out HB1.out
  have H3 := Lib.hid h3
  have HK : Hid (smK9 L p = true) := by unfold Hid smK9; rw [h1, h3]; rfl
  have HG := Lib.hid (good10_of h1)
  have h10 := (good10_of h1).max
  obtain ⟨p1, p2⟩ := inB_yes h3
  clear h1 h3
  go_enter Try.func23, Try.ntmps23
  go_wp2_with fail
  refine (xds_impl_v _ _ _ L _ H1.out _ HS.out hm hcap).mono ?_
  rintro e w1 ⟨rfl, hb⟩
  have HB1 := Lib.hid hb
  clear hb
  go_wp2_with fail
  refine (pctX_impl _ _ H3.out _).mono ?_
  rintro e w' ⟨rfl, rfl⟩
  go_wp2_with fail
  go_loopw [6, 19] (fun q i wr => ∃ (k : Nat) (s : Int), k ≤ L.length ∧ i = .int .i64 k ∧ q = .int .i64 s ∧ Hid (s = smF L p k) ∧ (0 ≤ s ∧ s ≤ 30000) ∧ Hid (Below w.heap.size w wr)) (fun _ i _ => L.length - (intOf i).toNat)
  case atStart => exact ⟨0, 0, Nat.zero_le _, rfl, rfl, Lib.hid rfl, by omega, HB1⟩
  case round =>
    obtain ⟨k, s, hk, rfl, rfl, hM, ⟨hs1, hs2⟩, hB⟩ := hrel
    by_cases hlt : k < L.length
    · obtain ⟨b, o, v, rfl, hbl, hL, c0, c1, c2, c3⟩ := (sds_atX HS.out hB.out).2 k hlt
      have hxv := HG.out.one k hlt
      rw [xdAt_at hL] at hxv
      have ho := obI_bd hxv (p := p) ⟨p1, p2⟩
      obtain ⟨x, hx⟩ : ∃ x, (obI v p + 99) / 100 = x := ⟨_, rfl⟩
      have hxb : -30000 ≤ x ∧ x ≤ 30000 := by omega
      obtain ⟨hxb1, hxb2⟩ := hxb
      have HXV := Lib.hid (And.intro hx hxv)
      have HB3 := Lib.hid (bthen hB.out (box1 (w := wr) (cs := #[.int .i64 v.ln, .int .i64 v.cr, .int .i64 v.mn, .int .i64 v.ck]) (T := 45) (Below.refl _ _)).1 hB.out.size)
      have hst := smF_step hL hx hM.out
      by_cases hc : s < x
      · rw [show max s x = x by omega] at hst
        have HN := Lib.hid hst
        clear hL hxv hx ho hst
        go_wp2_with fail
        refine (fix_impl v p x HXV.out.1 HXV.out.2 p1 p2 _).mono ?_
        rintro e W9 ⟨rfl, hb⟩
        have HB9 := Lib.hid (bthen HB3.out hb HB3.out.size)
        clear hb c0 c1 c2 c3
        go_wp2_with fail
        go_roundw
        case rel => exact ⟨k + 1, x, by omega, by go_num, by first | rfl | go_num, HN, by omega, HB9⟩
        case measure => simp [intOf]; omega
      · rw [show max s x = s by omega] at hst
        have HN := Lib.hid hst
        clear hL hxv hx ho hst
        go_wp2_with fail
        refine (fix_impl v p x HXV.out.1 HXV.out.2 p1 p2 _).mono ?_
        rintro e W9 ⟨rfl, hb⟩
        have HB9 := Lib.hid (bthen HB3.out hb HB3.out.size)
        clear hb c0 c1 c2 c3
        go_wp2_with fail
        go_roundw
        case rel => exact ⟨k + 1, s, by omega, by go_num, by first | rfl | go_num, HN, by omega, HB9⟩
        case measure => simp [intOf]; omega
    · obtain rfl : k = L.length := by omega
      go_wp2_with fail
      go_ret2
      exact sm_yes9 HK.out hM.out hB.out
set_option maxRecDepth 20000 in
set_option maxHeartbeats 3200000 in
theorem small_spec (A : Option Addr) (n c : Nat) (L : List XD) (p : Int) (w : World) (hs : SdsX w w.heap.size A n L) (hm : n ≤ maxLen) :
    Calls Try.prog 24 #[.slice A n c, .int .i64 p] w (Num2X (smR L p) (smK9 L p) w) := by
  obtain rfl := hs.1
  have HS := Lib.hid hs
  clear hs
  rcases h1 : xdsB L with _ | _
  · have H1 := Lib.hid h1
    have HK : Hid (smK9 L p = false) := by unfold Hid smK9; rw [h1]; rfl
    clear h1
    go_enter Try.func24, Try.ntmps24
    go_wp2_with fail
    refine (xgood_spec_v _ _ _ L _ H1.out _ HS.out hm).mono ?_
    rintro e w1 ⟨rfl, hb⟩
    have HB1 := Lib.hid hb
    clear hb
    go_wp2_with fail
    go_ret2
    exact sm_no9 HK.out HB1.out
  have H1 := Lib.hid h1
  rcases h3 : inB p 0 100 with _ | _
  · have H3 := Lib.hid h3
    have HK : Hid (smK9 L p = false) := by unfold Hid smK9; rw [h3, Bool.and_false]
    clear h1 h3
    go_enter Try.func24, Try.ntmps24
    go_wp2_with fail
    refine (xgood_spec_v _ _ _ L _ H1.out _ HS.out hm).mono ?_
    rintro e w1 ⟨rfl, hb⟩
    have HB1 := Lib.hid hb
    clear hb
    go_wp2_with fail
    refine (l1In_v _ _ _ _ H3.out _).mono ?_
    rintro e w' ⟨rfl, rfl⟩
    go_wp2_with fail
    go_ret2
    exact sm_no9 HK.out HB1.out
  have H3 := Lib.hid h3
  have HK : Hid (smK9 L p = true) := by unfold Hid smK9; rw [h1, h3]; rfl
  have HG := Lib.hid (good10_of h1)
  have h10 := (good10_of h1).max
  obtain ⟨p1, p2⟩ := inB_yes h3
  clear h1 h3
  go_enter Try.func24, Try.ntmps24
  go_wp2_with fail
  refine (xgood_spec_v _ _ _ L _ H1.out _ HS.out hm).mono ?_
  rintro e w1 ⟨rfl, hb⟩
  have HB1 := Lib.hid hb
  clear hb
  go_wp2_with fail
  refine (l1In_v _ _ _ _ H3.out _).mono ?_
  rintro e w' ⟨rfl, rfl⟩
  go_wp2_with fail
  go_loopw [6, 7] (fun q i wr => ∃ (k : Nat) (s : Int), k ≤ L.length ∧ i = .int .i64 k ∧ q = .int .i64 s ∧ Hid (s = smF L p k) ∧ (0 ≤ s ∧ s ≤ 30000) ∧ Hid (Below w.heap.size w wr)) (fun _ i _ => L.length - (intOf i).toNat)
  case atStart => exact ⟨0, 0, Nat.zero_le _, rfl, rfl, Lib.hid rfl, by omega, HB1⟩
  case round =>
    obtain ⟨k, s, hk, rfl, rfl, hM, ⟨hs1, hs2⟩, hB⟩ := hrel
    by_cases hlt : k < L.length
    · obtain ⟨b, o, v, rfl, hbl, hL, c0, c1, c2, c3⟩ := (sds_atX HS.out hB.out).2 k hlt
      have hxv := HG.out.one k hlt
      rw [xdAt_at hL] at hxv
      have ho := obI_bd hxv (p := p) ⟨p1, p2⟩
      obtain ⟨y, hy⟩ : ∃ y, obI v p = y := ⟨_, rfl⟩
      obtain ⟨z, hz⟩ : ∃ z, max 0 y = z := ⟨_, rfl⟩
      obtain ⟨x, hx⟩ : ∃ x, (z + 99) / 100 = x := ⟨_, rfl⟩
      obtain ⟨t, ht⟩ : ∃ t, max s x = t := ⟨_, rfl⟩
      rw [hy] at ho
      have hzb : 0 ≤ z ∧ z ≤ 2100000 := by omega
      have hxb : 0 ≤ x ∧ x ≤ 30000 := by omega
      have htb : 0 ≤ t ∧ t ≤ 30000 := by omega
      obtain ⟨hzb1, hzb2⟩ := hzb
      obtain ⟨hxb1, hxb2⟩ := hxb
      have HXV := Lib.hid (And.intro hy hxv)
      have HZ := Lib.hid hz
      have HTT := Lib.hid ht
      have HN : Hid (t = smF L p (k + 1)) := by unfold Hid; rw [← ht]; exact smF_step2 hL (by rw [hy, hz, hx]) hM.out
      have hq1 : (z + 99).tdiv 100 = x := by rw [← hx]; exact Int.tdiv_eq_ediv_of_nonneg (by omega)
      clear hL hxv hy hz ho ht
      go_wp2_with fail
      refine (over_spec v p y HXV.out.1 HXV.out.2 p1 p2 _).mono ?_
      rintro e W9 ⟨rfl, hb⟩
      have HB9 := Lib.hid (bthen hB.out hb hB.out.size)
      clear hb c0 c1 c2 c3
      go_wp2_with fail
      refine (mostX_v 0 y z HZ.out _).mono ?_
      rintro e w' ⟨rfl, rfl⟩
      go_wp2_with fail
      refine (mostX_v s _ t (by first | exact HTT.out | (rw [hx]; exact HTT.out)) _).mono ?_
      rintro e w' ⟨rfl, rfl⟩
      go_wp2_with fail
      go_roundw
      case rel => exact ⟨k + 1, t, by omega, by go_num, by first | rfl | go_num, HN, htb, HB9⟩
      case measure => simp [intOf]; omega
    · obtain rfl : k = L.length := by omega
      go_wp2_with fail
      go_ret2
      exact sm_yes9 HK.out hM.out hB.out
end Go.Proofs.Ytlakdlghkniegaa
