/-
  Crossings: contracts of impl.isDepth, isCrossing, slices.IndexFunc, slices.ContainsFunc over crossings, AreCrossings, spec.l2Depth, l10Good, AreCrossings over this translation. Conditions: stated at each theorem.
-/
import Derived.Test.YtlakdlghkniegaaXo
import Derived.Test.YtlakdlghkniegaaMw
import Derived.Test.YtlakdlghkniegaaPerm
namespace Go.Proofs.Ytlakdlghkniegaa
open Go.RowKit
set_option linter.unusedVariables false

theorem depX_impl (n : Int) (v : Bool) (h : inB n (-1000) 20000 = v) (w : World) :
    Calls Try.prog 90 #[.int .i64 n] w fun e w' => e = .returned (.bool v) ∧ w = w' := by
  have H := Lib.hid h
  clear h
  go_enter Try.func90, Try.ntmps90
  go_wp2_with fail
  refine (within_v _ _ _ _ H.out _).mono ?_
  rintro e w' ⟨rfl, rfl⟩
  go_wp2_with fail
  go_ret
  exact ⟨rfl, rfl⟩
theorem depX_spec (n : Int) (v : Bool) (h : inB n (-1000) 20000 = v) (w : World) :
    Calls Try.prog 92 #[.int .i64 n] w fun e w' => e = .returned (.bool v) ∧ w = w' := by
  have H := Lib.hid h
  clear h
  go_enter Try.func92, Try.ntmps92
  go_wp2_with fail
  refine (l1In_v _ _ _ _ H.out _).mono ?_
  rintro e w' ⟨rfl, rfl⟩
  go_wp2_with fail
  go_ret
  exact ⟨rfl, rfl⟩
theorem pctX_impl (n : Int) (v : Bool) (h : inB n 0 100 = v) (w : World) :
    Calls Try.prog 56 #[.int .i64 n] w fun e w' => e = .returned (.bool v) ∧ w = w' := by
  have H := Lib.hid h
  clear h
  go_enter Try.func56, Try.ntmps56
  go_wp2_with fail
  refine (within_v _ _ _ _ H.out _).mono ?_
  rintro e w' ⟨rfl, rfl⟩
  go_wp2_with fail
  go_ret
  exact ⟨rfl, rfl⟩
theorem xdB_is (v : XD) (a b d : Bool) (h1 : (inB v.ln 1 99 && inB v.cr 1 99) = a) (h2 : inB v.mn (-1000) 20000 = b) (h3 : inB v.ck (-1000) 20000 = d) : xdB v = (a && b && d) := by
  subst h1; subst h2; subst h3
  unfold xdB
  simp only [Bool.and_assoc]
set_option maxHeartbeats 800000 in
theorem xd_impl (v : XD) (r : Bool) (h : xdB v = r) (w : World) :
    Calls Try.prog 61 #[.agg #[.int .i64 v.ln, .int .i64 v.cr, .int .i64 v.mn, .int .i64 v.ck]] w fun e w' => e = .returned (.bool r) ∧ Below w.heap.size w w' := by
  subst h
  have HX : Hid (((w.alloc (.cells #[.int .i64 v.ln, .int .i64 v.cr, .int .i64 v.mn, .int .i64 v.ck] 45)).alloc (.cells #[.int .i64 v.ln, .int .i64 v.cr] 3)).cell? ⟨w.heap.size + 1, 0, none⟩ = some (.int .i64 v.ln) ∧ ((w.alloc (.cells #[.int .i64 v.ln, .int .i64 v.cr, .int .i64 v.mn, .int .i64 v.ck] 45)).alloc (.cells #[.int .i64 v.ln, .int .i64 v.cr] 3)).cell? ⟨w.heap.size + 1, 1, none⟩ = some (.int .i64 v.cr)) := by
    have h := Has.new (w.alloc (.cells #[.int .i64 v.ln, .int .i64 v.cr, .int .i64 v.mn, .int .i64 v.ck] 45)) #[.int .i64 v.ln, .int .i64 v.cr] 3
    rw [World.size_alloc] at h
    exact Lib.hid ⟨h.at_ 0 _ rfl, h.at_ 1 _ rfl⟩
  rcases h1 : (inB v.ln 1 99 && inB v.cr 1 99) with _ | _
  · have HR : Hid (xdB v = false) := by unfold Hid; rw [xdB_is v _ _ _ h1 rfl rfl]; simp
    have H1 := Lib.hid h1
    clear h1
    go_enter Try.func61, Try.ntmps61
    go_wp2_with fail
    refine (pair_within 1 99 v.ln v.cr _ H1.out _ _ _ HX.out.1 HX.out.2).mono ?_
    rintro e w' ⟨rfl, rfl⟩
    go_wp2_with fail
    go_ret
    exact ⟨ret_bool HR.out.symm, (by repeat (first | exact Below.refl _ _ | refine Below.alloc ?_ (by simp; try omega) _))⟩
  rcases h2 : inB v.mn (-1000) 20000 with _ | _
  · have HR : Hid (xdB v = false) := by unfold Hid; rw [xdB_is v _ _ _ h1 h2 rfl]; simp
    have H1 := Lib.hid h1
    have H2 := Lib.hid h2
    clear h1 h2
    go_enter Try.func61, Try.ntmps61
    go_wp2_with fail
    refine (pair_within 1 99 v.ln v.cr _ H1.out _ _ _ HX.out.1 HX.out.2).mono ?_
    rintro e w' ⟨rfl, rfl⟩
    go_wp2_with fail
    refine (depX_impl _ _ H2.out _).mono ?_
    rintro e w' ⟨rfl, rfl⟩
    go_wp2_with fail
    go_ret
    exact ⟨ret_bool HR.out.symm, (by repeat (first | exact Below.refl _ _ | refine Below.alloc ?_ (by simp; try omega) _))⟩
  obtain ⟨d, h3⟩ : ∃ d, inB v.ck (-1000) 20000 = d := ⟨_, rfl⟩
  have HR : Hid (xdB v = d) := by unfold Hid; rw [xdB_is v _ _ _ h1 h2 h3]; simp
  have H1 := Lib.hid h1
  have H2 := Lib.hid h2
  have H3 := Lib.hid h3
  clear h1 h2 h3
  go_enter Try.func61, Try.ntmps61
  go_wp2_with fail
  refine (pair_within 1 99 v.ln v.cr _ H1.out _ _ _ HX.out.1 HX.out.2).mono ?_
  rintro e w' ⟨rfl, rfl⟩
  go_wp2_with fail
  refine (depX_impl _ _ H2.out _).mono ?_
  rintro e w' ⟨rfl, rfl⟩
  go_wp2_with fail
  refine (depX_impl _ _ H3.out _).mono ?_
  rintro e w' ⟨rfl, rfl⟩
  go_wp2_with fail
  go_ret
  exact ⟨ret_bool HR.out.symm, (by repeat (first | exact Below.refl _ _ | refine Below.alloc ?_ (by simp; try omega) _))⟩
/-! ### Pairs -/
/-- The place of the first crossing of L that P takes, or -1. -/
def firstX (P : XD → Bool) (L : List XD) : Int := if L.findIdx P < L.length then (L.findIdx P : Int) else -1
theorem findX_is {L : List XD} {P : XD → Bool} {i : Nat} (hi : i ≤ L.length) (h1 : ∀ p (h : p < L.length), p < i → P L[p] = false) (h2 : ∀ h : i < L.length, P L[i] = true) : L.findIdx P = i := by
  rcases Nat.lt_or_ge i L.length with h | h
  · rw [List.findIdx_eq h]
    exact ⟨h2 h, fun j hj => h1 j (by omega) hj⟩
  · obtain rfl : i = L.length := by omega
    rw [List.findIdx_eq_length]
    intro x hx
    obtain ⟨k, hk, rfl⟩ := List.getElem_of_mem hx
    exact h1 k hk hk
theorem firstX_iff (P : XD → Bool) (L : List XD) : (0 ≤ firstX P L) ↔ ∃ x ∈ L, P x = true := by
  unfold firstX
  constructor
  · intro h
    split at h
    · rename_i h1; exact List.findIdx_lt_length.1 h1
    · omega
  · intro h
    rw [if_pos (List.findIdx_lt_length.2 h)]
    omega
/-- One of the first k crossings has the pair of v. -/
def hasX (v : XD) (L : List XD) : Bool := decide (0 ≤ firstX (fun u => xsB u v) L)
theorem hasX_take {L : List XD} {k : Nat} (v : XD) (hk : k ≤ L.length) : hasX v (L.take k) = !xfK L v k := by
  rcases h : xfK L v k with _ | _
  · refine decide_eq_true ((firstX_iff _ _).2 ?_)
    rcases hx : hasX v (L.take k) with _ | _
    · have h2 : xfK L v k = true := xfK_yes.2 fun j hj => by
        rcases hs : xsB (xdAt L j) v with _ | _
        · rfl
        · have : hasX v (L.take k) = true := decide_eq_true ((firstX_iff _ _).2 ⟨xdAt L j, List.mem_of_getElem? (i := j) (by rw [List.getElem?_take, if_pos hj]; exact xdAt_get (by omega)), hs⟩)
          rw [hx] at this; cases this
      rw [h] at h2; cases h2
    · exact (firstX_iff _ _).1 (of_decide_eq_true hx)
  · refine decide_eq_false fun h1 => ?_
    obtain ⟨x, hx, hp⟩ := (firstX_iff _ _).1 h1
    obtain ⟨j, hj⟩ := List.mem_iff_getElem?.1 hx
    rw [List.getElem?_take] at hj
    split at hj
    · rename_i hjk
      have := xfK_yes.1 h j hjk
      rw [xdAt_at hj] at this
      exact Bool.noConfusion (this.symm.trans hp)
    · cases hj
theorem xsB_cases (u v : XD) : (u.ln ≠ v.ln ∧ xsB u v = false) ∨ (u.ln = v.ln ∧ u.cr ≠ v.cr ∧ xsB u v = false) ∨ (u.ln = v.ln ∧ u.cr = v.cr ∧ xsB u v = true) := by
  unfold xsB
  by_cases h1 : u.ln = v.ln
  · by_cases h2 : u.cr = v.cr
    · exact .inr (.inr ⟨h1, h2, by simp [h1, h2]⟩)
    · exact .inr (.inl ⟨h1, h2, by simp [h2]⟩)
  · exact .inl ⟨h1, by simp [h1]⟩
set_option maxHeartbeats 800000 in
theorem pairX_any (p : Nat) (u v : XD) (r : Bool) (hr : xsB u v = r) (w : World) (hp0 : w.cell? ⟨p, 0, none⟩ = some (.int .i64 v.ln)) (hp1 : w.cell? ⟨p, 1, none⟩ = some (.int .i64 v.cr)) :
    Calls Try.prog 60 #[.agg #[.int .i64 u.ln, .int .i64 u.cr, .int .i64 u.mn, .int .i64 u.ck], .pointer (some ⟨p, 0, none⟩)] w fun e w' => e = .returned (.bool r) ∧ Below w.heap.size w w' := by
  have d0 := cell_next ((Below.refl w.heap.size w).alloc (Nat.le_refl _) (.cells #[.int .i64 u.ln, .int .i64 u.cr, .int .i64 u.mn, .int .i64 u.ck] 45)) hp0
  have d1 := cell_next ((Below.refl w.heap.size w).alloc (Nat.le_refl _) (.cells #[.int .i64 u.ln, .int .i64 u.cr, .int .i64 u.mn, .int .i64 u.ck] 45)) hp1
  clear hp0 hp1
  obtain ⟨l, q, m, k⟩ := u
  obtain ⟨l', q', m', k'⟩ := v
  rcases xsB_cases ⟨l, q, m, k⟩ ⟨l', q', m', k'⟩ with ⟨h1, h⟩ | ⟨h1, h2, h⟩ | ⟨h1, h2, h⟩
  · obtain rfl : r = false := hr.symm.trans h
    have hne : (l == l') = false := beq_eq_false_iff_ne.2 h1
    clear hr h h1
    dsimp only at d0 d1
    go_enter Try.func60, Try.ntmps60
    go_wp2_with fail
    go_ret
    exact ⟨ret_bool (by simp), (Below.refl _ _).alloc (Nat.le_refl _) _⟩
  · obtain rfl : r = false := hr.symm.trans h
    obtain rfl : l = l' := h1
    have hne : (q == q') = false := beq_eq_false_iff_ne.2 h2
    clear hr h h2
    dsimp only at d0 d1
    go_enter Try.func60, Try.ntmps60
    go_wp2_with fail
    go_ret
    exact ⟨ret_bool (by simp), (Below.refl _ _).alloc (Nat.le_refl _) _⟩
  · obtain rfl : r = true := hr.symm.trans h
    obtain rfl : l = l' := h1
    obtain rfl : q = q' := h2
    clear hr h
    dsimp only at d0 d1
    go_enter Try.func60, Try.ntmps60
    go_wp2_with fail
    go_ret
    exact ⟨ret_bool (by simp), (Below.refl _ _).alloc (Nat.le_refl _) _⟩
set_option maxRecDepth 100000 in
set_option maxHeartbeats 1600000 in
theorem indexX_any (v : XD) (p : Nat) (A : Option Addr) (n c : Nat) (L : List XD) (w : World) (hs : SdsX w w.heap.size A n L) (hm : n ≤ maxLen) (hp0 : w.cell? ⟨p, 0, none⟩ = some (.int .i64 v.ln)) (hp1 : w.cell? ⟨p, 1, none⟩ = some (.int .i64 v.cr)) :
    Calls Try.prog 91 #[.slice A n c, .func (.func 60) #[] #[.pointer (some ⟨p, 0, none⟩)]] w fun e w' => e = .returned (.int .i64 (firstX (fun u => xsB u v) L)) ∧ Below w.heap.size w w' := by
  obtain rfl := hs.1
  have HS := Lib.hid hs
  have HP0 := Lib.hid hp0
  have HP1 := Lib.hid hp1
  clear hs hp0 hp1
  unfold maxLen at hm
  go_enter Try.func91, Try.ntmps91
  go_wp2_with fail
  go_loopw [8] (fun i wr => ∃ k : Nat, k ≤ L.length ∧ i = .int .i64 k ∧ Hid ((∀ p (h : p < L.length), p < k → xsB L[p] v = false) ∧ Below w.heap.size w wr)) (fun i _ => L.length - (intOf i).toNat)
  case atStart => exact ⟨0, Nat.zero_le _, rfl, Lib.hid ⟨fun p h h' => absurd h' (by omega), Below.refl _ _⟩⟩
  case round =>
    obtain ⟨k, hk, rfl, hR⟩ := hrel
    by_cases hlt : k < L.length
    · obtain ⟨b, o, u, rfl, hb, hL, c0, c1, c2, c3⟩ := (sds_atX HS.out hR.out.2).2 k hlt
      have HK := Lib.hid (List.getElem?_eq_some_iff.1 hL)
      clear hL
      rcases hp : xsB u v with _ | _
      · have HP := Lib.hid hp
        have HN : Hid (∀ p (h : p < L.length), p < k + 1 → xsB L[p] v = false) := Lib.hid fun p h hpk => by
          rcases Nat.lt_or_ge p k with h1 | h1
          · exact hR.out.1 p h h1
          · obtain rfl : p = k := by omega
            obtain ⟨_, e⟩ := HK.out
            rw [e]; exact HP.out
        clear hp
        go_wp2_with fail
        refine (pairX_any p u v _ HP.out _ (cell_next (Below.mono hR.out.2 (Nat.le_refl _)) HP0.out) (cell_next (Below.mono hR.out.2 (Nat.le_refl _)) HP1.out)).mono ?_
        rintro e w1 ⟨rfl, hb'⟩
        have HB := Lib.hid (And.intro HN.out (bthen hR.out.2 hb' hR.out.2.size))
        clear hb' c0 c1 c2 c3
        go_wp2_with fail
        go_roundw
        case rel => exact ⟨k + 1, by omega, by go_num, HB⟩
        case measure => simp [intOf]; omega
      · have HP := Lib.hid hp
        have HR : Hid (firstX (fun u => xsB u v) L = k) := by
          have e : L.findIdx (fun u => xsB u v) = k := findX_is hk (fun p h h' => hR.out.1 p h h') (fun h => by obtain ⟨_, e⟩ := HK.out; rw [e]; exact hp)
          unfold Hid firstX
          rw [e, if_pos hlt]
        clear hp
        go_wp2_with fail
        refine (pairX_any p u v _ HP.out _ (cell_next (Below.mono hR.out.2 (Nat.le_refl _)) HP0.out) (cell_next (Below.mono hR.out.2 (Nat.le_refl _)) HP1.out)).mono ?_
        rintro e w1 ⟨rfl, hb'⟩
        have HB := Lib.hid (bthen hR.out.2 hb' hR.out.2.size)
        clear hb' c0 c1 c2 c3
        go_wp2_with fail
        go_ret
        exact ⟨ret_int HR.out.symm, HB.out⟩
    · have HR : Hid (firstX (fun u => xsB u v) L = -1) := by
        have e : L.findIdx (fun u => xsB u v) = L.length := findX_is (Nat.le_refl _) (fun p h _ => hR.out.1 p h (by omega)) (fun h => absurd h (by omega))
        unfold Hid firstX
        rw [e, if_neg (by omega)]
      go_wp2_with fail
      go_ret
      exact ⟨ret_int HR.out.symm, hR.out.2⟩
theorem containsX_v (v : XD) (p : Nat) (A : Option Addr) (n c : Nat) (L : List XD) (r : Bool) (hr : hasX v L = r) (w : World) (hs : SdsX w w.heap.size A n L) (hm : n ≤ maxLen) (hp0 : w.cell? ⟨p, 0, none⟩ = some (.int .i64 v.ln)) (hp1 : w.cell? ⟨p, 1, none⟩ = some (.int .i64 v.cr)) :
    Calls Try.prog 62 #[.slice A n c, .func (.func 60) #[] #[.pointer (some ⟨p, 0, none⟩)]] w fun e w' => e = .returned (.bool r) ∧ Below w.heap.size w w' := by
  have H := Lib.hid (indexX_any v p A n c L w hs hm hp0 hp1)
  have HR := Lib.hid hr
  clear hs hp0 hp1 hr
  go_enter Try.func62, Try.ntmps62
  go_wp2_with fail
  refine H.out.mono ?_
  rintro e w1 ⟨rfl, hb⟩
  have HT := Lib.hid hb
  clear hb
  go_wp2_with fail
  go_ret
  exact ⟨ret_bool HR.out, HT.out⟩
/-! ### Rows -/
theorem xds_long {L : List XD} (h : ¬ L.length ≤ 10) : xdsB L = false := by unfold xdsB; rw [decide_eq_false h]; rfl
theorem xds_bad {L : List XD} {k : Nat} (h : k < L.length) (hb : xstepB L k = false) : xdsB L = false := by unfold xdsB; rw [xgoodK_bad h hb, Bool.and_false]
theorem xds_fine {L : List XD} (h : L.length ≤ 10) (hb : xgoodK L L.length = true) : xdsB L = true := by unfold xdsB; rw [hb, decide_eq_true h]; rfl
theorem xstep_invalid {L : List XD} {k : Nat} {v : XD} (h : L[k]? = some v) (hb : xdB v = false) : xstepB L k = false := by unfold xstepB; rw [xdAt_at h, hb]; rfl
theorem xstep_twice {L : List XD} {k : Nat} {v : XD} (h : L[k]? = some v) (hb : xfK L v k = false) : xstepB L k = false := by unfold xstepB; rw [xdAt_at h, hb, Bool.and_false]
theorem xstep_fine {L : List XD} {k : Nat} {v : XD} (h : L[k]? = some v) (hv : xdB v = true) (hb : xfK L v k = true) : xstepB L k = true := by unfold xstepB; rw [xdAt_at h, hv, hb]; rfl
theorem xf_bad {L : List XD} {k j : Nat} {u v : XD} (hj : j < k) (hu : L[j]? = some u) (hs : xsB u v = true) : xfK L v k = false := by
  rcases h : xfK L v k with _ | _
  · rfl
  · have := xfK_yes.1 h j hj
    rw [xdAt_at hu, hs] at this; cases this
theorem xf_next {L : List XD} {j : Nat} {u v : XD} (h : xfK L v j = true) (hu : L[j]? = some u) (hs : xsB u v = false) : xfK L v (j + 1) = true := by
  rw [xfK, h, xdAt_at hu, hs]; rfl
set_option maxRecDepth 20000 in
set_option maxHeartbeats 3200000 in
theorem xds_impl (A : Option Addr) (n c : Nat) (L : List XD) (w : World) (hs : SdsX w w.heap.size A n L) (hm : n ≤ maxLen) (hcap : n ≤ c) :
    Calls Try.prog 19 #[.slice A n c] w fun e w' => e = .returned (.bool (xdsB L)) ∧ Below w.heap.size w w' := by
  obtain rfl := hs.1
  have HS := Lib.hid hs
  have HM := Lib.hid hm
  clear hs
  unfold maxLen at hm
  by_cases h12 : (10 : Int) < L.length
  · have HR := Lib.hid (xds_long (L := L) (by omega))
    go_enter Try.func19, Try.ntmps19
    go_wp2_with fail
    go_ret
    exact ⟨ret_bool HR.out.symm, Below.refl _ _⟩
  go_enter Try.func19, Try.ntmps19
  go_wp2_with fail
  go_loopw [11] (fun i wr => ∃ k : Nat, k ≤ L.length ∧ i = .int .i64 k ∧ Hid (xgoodK L k = true) ∧ Hid (Below w.heap.size w wr)) (fun i _ => L.length - (intOf i).toNat)
  case atStart => exact ⟨0, Nat.zero_le _, rfl, by simp [Hid, xgoodK], Lib.hid (Below.refl _ _)⟩
  case round =>
    obtain ⟨k, hk, rfl, hA, hB⟩ := hrel
    by_cases hlt : k < L.length
    · obtain ⟨b, o, v, rfl, hbl, hL, c0, c1, c2, c3⟩ := (sds_atX HS.out hB.out).2 k hlt
      have HK := Lib.hid hL
      have HX0 := box1 (w := wr) (cs := #[.int .i64 v.ln, .int .i64 v.cr, .int .i64 v.mn, .int .i64 v.ck]) (T := 45) (Below.refl _ _)
      have HB0 := Lib.hid (bthen hB.out HX0.1 hB.out.size)
      have HXB := Lib.hid HX0.2
      have HXW := Lib.hid HX0.1
      clear hL HX0
      rcases hv : xdB v with _ | _
      · have HV := Lib.hid hv
        have HR := Lib.hid (xds_bad hlt (xstep_invalid HK.out hv))
        clear hv
        go_wp2_with fail
        refine (xd_impl v _ HV.out _).mono ?_
        rintro e w1 ⟨rfl, hb⟩
        have HT := Lib.hid (bthen HB0.out hb HB0.out.size)
        clear hb c0 c1 c2 c3
        go_wp2_with fail
        go_ret
        exact ⟨ret_bool HR.out.symm, HT.out⟩
      have HV := Lib.hid hv
      clear hv
      rcases hf : xfK L v k with _ | _
      · have HF : Hid (hasX v (L.take k) = true) := by unfold Hid; rw [hasX_take v hk, hf]; rfl
        have HR := Lib.hid (xds_bad hlt (xstep_twice HK.out hf))
        clear hf
        go_wp2_with fail
        refine (xd_impl v _ HV.out _).mono ?_
        rintro e w1 ⟨rfl, hb⟩
        have HT := Lib.hid (bthen HB0.out hb HB0.out.size)
        have HX1 := Lib.hid (HXB.out.next hb)
        have HS1 := Lib.hid ((sds_atX HS.out HT.out).take hk)
        clear hb c0 c1 c2 c3
        go_wp2_with fail
        refine (containsX_v v _ _ _ _ (L.take k) _ HF.out _ HS1.out (Nat.le_trans hk HM.out) (HX1.out.at_ 0 _ rfl) (HX1.out.at_ 1 _ rfl)).mono ?_
        rintro e w2 ⟨rfl, hb⟩
        have HT2 := Lib.hid (bthen HT.out hb HT.out.size)
        clear hb
        go_wp2_with fail
        go_ret
        exact ⟨ret_bool HR.out.symm, HT2.out⟩
      · have HF : Hid (hasX v (L.take k) = false) := by unfold Hid; rw [hasX_take v hk, hf]; rfl
        have HR : Hid (xgoodK L (k + 1) = true) := by unfold Hid; rw [xgoodK_succ, hA.out, xstep_fine HK.out HV.out hf]; rfl
        clear hf
        go_wp2_with fail
        refine (xd_impl v _ HV.out _).mono ?_
        rintro e w1 ⟨rfl, hb⟩
        have HT := Lib.hid (bthen HB0.out hb HB0.out.size)
        have HX1 := Lib.hid (HXB.out.next hb)
        have HS1 := Lib.hid ((sds_atX HS.out HT.out).take hk)
        clear hb c0 c1 c2 c3
        go_wp2_with fail
        refine (containsX_v v _ _ _ _ (L.take k) _ HF.out _ HS1.out (Nat.le_trans hk HM.out) (HX1.out.at_ 0 _ rfl) (HX1.out.at_ 1 _ rfl)).mono ?_
        rintro e w2 ⟨rfl, hb⟩
        have HT2 := Lib.hid (bthen HT.out hb HT.out.size)
        clear hb
        go_wp2_with fail
        go_roundw
        case rel => exact ⟨k + 1, by omega, by go_num, HR, HT2⟩
        case measure => simp [intOf]; omega
    · obtain rfl : k = L.length := by omega
      have HR := Lib.hid (xds_fine (by omega) hA.out)
      go_wp2_with fail
      go_ret
      exact ⟨ret_bool HR.out.symm, hB.out⟩
set_option maxRecDepth 20000 in
set_option maxHeartbeats 12800000 in
theorem xgood_spec (A : Option Addr) (n c : Nat) (L : List XD) (w : World) (hs : SdsX w w.heap.size A n L) (hm : n ≤ maxLen) :
    Calls Try.prog 63 #[.slice A n c] w fun e w' => e = .returned (.bool (xdsB L)) ∧ Below w.heap.size w w' := by
  obtain rfl := hs.1
  have HS := Lib.hid hs
  clear hs
  unfold maxLen at hm
  go_enter Try.func63, Try.ntmps63
  go_wp2_with fail
  go_loopw [3] (fun i wr => ∃ k : Nat, k ≤ L.length ∧ i = .int .i64 k ∧ Hid (xgoodK L k = true) ∧ Hid (Below w.heap.size w wr)) (fun i _ => L.length - (intOf i).toNat)
  case atStart => exact ⟨0, Nat.zero_le _, rfl, by simp [Hid, xgoodK], Lib.hid (Below.refl _ _)⟩
  case round =>
    obtain ⟨k, hk, rfl, hA, hB⟩ := hrel
    by_cases hlt : k < L.length
    · obtain ⟨b, o, v, rfl, hbl, hL, c0, c1, c2, c3⟩ := (sds_atX HS.out hB.out).2 k hlt
      have HK := Lib.hid hL
      rcases h1 : inB v.ln 1 99 with _ | _
      · have HR : Hid (xdsB L = false) := Lib.hid (xds_bad hlt (xstep_invalid HK.out (by unfold xdB; rw [h1]; simp)))
        have H1 := Lib.hid h1
        clear h1
        obtain ⟨W0, hW0⟩ : ∃ W0, W0 = wr.alloc (.cells #[.int .i64 v.ln, .int .i64 v.cr, .int .i64 v.mn, .int .i64 v.ck] 45) := ⟨_, rfl⟩
        have HW : Hid (Below wr.heap.size wr W0 ∧ Has W0 wr.heap.size [.int .i64 v.ln, .int .i64 v.cr, .int .i64 v.mn, .int .i64 v.ck]) := by rw [hW0]; exact box1 (Below.refl _ _)
        have HB0 := Lib.hid (bthen hB.out HW.out.1 hB.out.size)
        have a0 := HW.out.2.at_ 0 _ rfl
        have a1 := HW.out.2.at_ 1 _ rfl
        have a2 := HW.out.2.at_ 2 _ rfl
        have a3 := HW.out.2.at_ 3 _ rfl
        have HE := Lib.hid hW0
        clear hW0 hL
        go_wp2_with fail
        rw [← HE.out]
        clear c0 c1 c2 c3
        refine (l1In_v _ _ _ _ H1.out _).mono ?_
        rintro e w9 ⟨rfl, rfl⟩
        go_wp2_with fail
        have HT := HB0
        go_ret
        exact ⟨ret_bool HR.out.symm, HT.out⟩
      rcases h2 : inB v.cr 1 99 with _ | _
      · have HR : Hid (xdsB L = false) := Lib.hid (xds_bad hlt (xstep_invalid HK.out (by unfold xdB; rw [h1, h2]; simp)))
        have H1 := Lib.hid h1
        have H2 := Lib.hid h2
        clear h1 h2
        obtain ⟨W0, hW0⟩ : ∃ W0, W0 = wr.alloc (.cells #[.int .i64 v.ln, .int .i64 v.cr, .int .i64 v.mn, .int .i64 v.ck] 45) := ⟨_, rfl⟩
        have HW : Hid (Below wr.heap.size wr W0 ∧ Has W0 wr.heap.size [.int .i64 v.ln, .int .i64 v.cr, .int .i64 v.mn, .int .i64 v.ck]) := by rw [hW0]; exact box1 (Below.refl _ _)
        have HB0 := Lib.hid (bthen hB.out HW.out.1 hB.out.size)
        have a0 := HW.out.2.at_ 0 _ rfl
        have a1 := HW.out.2.at_ 1 _ rfl
        have a2 := HW.out.2.at_ 2 _ rfl
        have a3 := HW.out.2.at_ 3 _ rfl
        have HE := Lib.hid hW0
        clear hW0 hL
        go_wp2_with fail
        rw [← HE.out]
        clear c0 c1 c2 c3
        refine (l1In_v _ _ _ _ H1.out _).mono ?_
        rintro e w9 ⟨rfl, rfl⟩
        go_wp2_with fail
        refine (l1In_v _ _ _ _ H2.out _).mono ?_
        rintro e w9 ⟨rfl, rfl⟩
        go_wp2_with fail
        have HT := HB0
        go_ret
        exact ⟨ret_bool HR.out.symm, HT.out⟩
      rcases h3 : inB v.mn (-1000) 20000 with _ | _
      · have HR : Hid (xdsB L = false) := Lib.hid (xds_bad hlt (xstep_invalid HK.out (by unfold xdB; rw [h1, h2, h3]; simp)))
        have H1 := Lib.hid h1
        have H2 := Lib.hid h2
        have H3 := Lib.hid h3
        clear h1 h2 h3
        obtain ⟨W0, hW0⟩ : ∃ W0, W0 = wr.alloc (.cells #[.int .i64 v.ln, .int .i64 v.cr, .int .i64 v.mn, .int .i64 v.ck] 45) := ⟨_, rfl⟩
        have HW : Hid (Below wr.heap.size wr W0 ∧ Has W0 wr.heap.size [.int .i64 v.ln, .int .i64 v.cr, .int .i64 v.mn, .int .i64 v.ck]) := by rw [hW0]; exact box1 (Below.refl _ _)
        have HB0 := Lib.hid (bthen hB.out HW.out.1 hB.out.size)
        have a0 := HW.out.2.at_ 0 _ rfl
        have a1 := HW.out.2.at_ 1 _ rfl
        have a2 := HW.out.2.at_ 2 _ rfl
        have a3 := HW.out.2.at_ 3 _ rfl
        have HE := Lib.hid hW0
        clear hW0 hL
        go_wp2_with fail
        rw [← HE.out]
        clear c0 c1 c2 c3
        refine (l1In_v _ _ _ _ H1.out _).mono ?_
        rintro e w9 ⟨rfl, rfl⟩
        go_wp2_with fail
        refine (l1In_v _ _ _ _ H2.out _).mono ?_
        rintro e w9 ⟨rfl, rfl⟩
        go_wp2_with fail
        refine (depX_spec _ _ H3.out _).mono ?_
        rintro e w9 ⟨rfl, rfl⟩
        go_wp2_with fail
        have HT := HB0
        go_ret
        exact ⟨ret_bool HR.out.symm, HT.out⟩
      rcases h4 : inB v.ck (-1000) 20000 with _ | _
      · have HR : Hid (xdsB L = false) := Lib.hid (xds_bad hlt (xstep_invalid HK.out (by unfold xdB; rw [h1, h2, h3, h4]; simp)))
        have H1 := Lib.hid h1
        have H2 := Lib.hid h2
        have H3 := Lib.hid h3
        have H4 := Lib.hid h4
        clear h1 h2 h3 h4
        obtain ⟨W0, hW0⟩ : ∃ W0, W0 = wr.alloc (.cells #[.int .i64 v.ln, .int .i64 v.cr, .int .i64 v.mn, .int .i64 v.ck] 45) := ⟨_, rfl⟩
        have HW : Hid (Below wr.heap.size wr W0 ∧ Has W0 wr.heap.size [.int .i64 v.ln, .int .i64 v.cr, .int .i64 v.mn, .int .i64 v.ck]) := by rw [hW0]; exact box1 (Below.refl _ _)
        have HB0 := Lib.hid (bthen hB.out HW.out.1 hB.out.size)
        have a0 := HW.out.2.at_ 0 _ rfl
        have a1 := HW.out.2.at_ 1 _ rfl
        have a2 := HW.out.2.at_ 2 _ rfl
        have a3 := HW.out.2.at_ 3 _ rfl
        have HE := Lib.hid hW0
        clear hW0 hL
        go_wp2_with fail
        rw [← HE.out]
        clear c0 c1 c2 c3
        refine (l1In_v _ _ _ _ H1.out _).mono ?_
        rintro e w9 ⟨rfl, rfl⟩
        go_wp2_with fail
        refine (l1In_v _ _ _ _ H2.out _).mono ?_
        rintro e w9 ⟨rfl, rfl⟩
        go_wp2_with fail
        refine (depX_spec _ _ H3.out _).mono ?_
        rintro e w9 ⟨rfl, rfl⟩
        go_wp2_with fail
        refine (depX_spec _ _ H4.out _).mono ?_
        rintro e w9 ⟨rfl, rfl⟩
        go_wp2_with fail
        have HT := HB0
        go_ret
        exact ⟨ret_bool HR.out.symm, HT.out⟩
      have HV : Hid (xdB v = true) := by unfold Hid xdB; rw [h1, h2, h3, h4]; rfl
      have H1 := Lib.hid h1
      have H2 := Lib.hid h2
      have H3 := Lib.hid h3
      have H4 := Lib.hid h4
      clear h1 h2 h3 h4
      obtain ⟨W0, hW0⟩ : ∃ W0, W0 = wr.alloc (.cells #[.int .i64 v.ln, .int .i64 v.cr, .int .i64 v.mn, .int .i64 v.ck] 45) := ⟨_, rfl⟩
      have HW : Hid (Below wr.heap.size wr W0 ∧ Has W0 wr.heap.size [.int .i64 v.ln, .int .i64 v.cr, .int .i64 v.mn, .int .i64 v.ck]) := by rw [hW0]; exact box1 (Below.refl _ _)
      have HB0 := Lib.hid (bthen hB.out HW.out.1 hB.out.size)
      have a0 := HW.out.2.at_ 0 _ rfl
      have a1 := HW.out.2.at_ 1 _ rfl
      have a2 := HW.out.2.at_ 2 _ rfl
      have a3 := HW.out.2.at_ 3 _ rfl
      have HE := Lib.hid hW0
      clear hW0 hL
      go_wp2_with fail
      rw [← HE.out]
      clear c0 c1 c2 c3
      refine (l1In_v _ _ _ _ H1.out _).mono ?_
      rintro e w9 ⟨rfl, rfl⟩
      go_wp2_with fail
      refine (l1In_v _ _ _ _ H2.out _).mono ?_
      rintro e w9 ⟨rfl, rfl⟩
      go_wp2_with fail
      refine (depX_spec _ _ H3.out _).mono ?_
      rintro e w9 ⟨rfl, rfl⟩
      go_wp2_with fail
      refine (depX_spec _ _ H4.out _).mono ?_
      rintro e w9 ⟨rfl, rfl⟩
      go_wp2_with fail
      have HT := HB0
      have HX1 := Lib.hid HW.out.2
      clear a0 a1 a2 a3
      go_loopw [5] (fun i wq => ∃ q : Nat, q ≤ k ∧ i = .int .i64 q ∧ Hid (xfK L v q = true) ∧ Hid (Has wq wr.heap.size [.int .i64 v.ln, .int .i64 v.cr, .int .i64 v.mn, .int .i64 v.ck]) ∧ Hid (Below w.heap.size w wq)) (fun i _ => k - (intOf i).toNat)
      case atStart => exact ⟨0, Nat.zero_le _, rfl, Lib.hid rfl, HX1, HT⟩
      case round =>
        obtain ⟨q, hq, rfl, hN, hX2, hB2⟩ := hrel
        obtain ⟨W2, hW2⟩ : ∃ W : World, W = wr := ⟨_, rfl⟩
        rw [← hW2] at hX2 hB2 ⊢
        clear hW2
        have e0 := hX2.out.at_ 0 _ rfl
        have e1 := hX2.out.at_ 1 _ rfl
        by_cases hqlt : q < k
        · obtain ⟨b3, o3, u, hA3, hb3, hL3, p0, p1, p2, p3⟩ := (sds_atX HS.out hB2.out).2 q (by omega)
          obtain ⟨rfl, rfl⟩ : b = b3 ∧ o = o3 := by injection hA3 with h; injection h with h h'; exact ⟨h, h'⟩
          have HK3 := Lib.hid hL3
          clear hA3 hL3 p2 p3
          rcases xsB_cases u v with ⟨g1, hs3⟩ | ⟨g1, g2, hs3⟩ | ⟨g1, g2, hs3⟩
          · have hd1 : (u.ln == v.ln) = false := beq_eq_false_iff_ne.2 g1
            have HN2 := Lib.hid (xf_next hN.out HK3.out hs3)
            clear hs3
            go_wp2_with fail
            have lc0 := lcell (p0)
            have lc1 := lcell (p1)
            have lc2 := lcell (e0)
            have lc3 := lcell (e1)
            refine region_later (W := W2) (by kernel_rfl) (by kernel_rfl) (Below.refl _ _) ?_
            repeat (go_big_quiet_step (fail))
            refine wpQuiet_nil ?_
            intro W3 hW1
            have HL : Hid (Below W2.heap.size W2 W3) := by obtain ⟨x, rfl⟩ := hW1; exact Lib.hid x.below
            clear hW1 lc0 lc1 lc2 lc3
            have HT2 := Lib.hid (bthen hB2.out HL.out hB2.out.size)
            have HX3 := Lib.hid (hX2.out.next HL.out)
            clear p0 p1 e0 e1
            go_wp2_with fail
            go_roundw
            case rel => exact ⟨q + 1, by omega, by go_num, HN2, HX3, HT2⟩
            case measure => simp [intOf]; omega
          · have hd1 : (u.ln == v.ln) = true := beq_iff_eq.2 g1
            have hd2 : (u.cr == v.cr) = false := beq_eq_false_iff_ne.2 g2
            have HN2 := Lib.hid (xf_next hN.out HK3.out hs3)
            clear hs3
            go_wp2_with fail
            have lc0 := lcell (p0)
            have lc1 := lcell (p1)
            have lc2 := lcell (e0)
            have lc3 := lcell (e1)
            refine region_later (W := W2) (by kernel_rfl) (by kernel_rfl) (Below.refl _ _) ?_
            repeat (go_big_quiet_step (fail))
            refine wpQuiet_nil ?_
            intro W3 hW1
            have HL : Hid (Below W2.heap.size W2 W3) := by obtain ⟨x, rfl⟩ := hW1; exact Lib.hid x.below
            clear hW1 lc0 lc1 lc2 lc3
            have HT2 := Lib.hid (bthen hB2.out HL.out hB2.out.size)
            have HX3 := Lib.hid (hX2.out.next HL.out)
            clear p0 p1 e0 e1
            go_wp2_with fail
            go_roundw
            case rel => exact ⟨q + 1, by omega, by go_num, HN2, HX3, HT2⟩
            case measure => simp [intOf]; omega
          · have hd1 : (u.ln == v.ln) = true := beq_iff_eq.2 g1
            have hd2 : (u.cr == v.cr) = true := beq_iff_eq.2 g2
            have HR := Lib.hid (xds_bad hlt (xstep_twice HK.out (xf_bad hqlt HK3.out hs3)))
            clear hs3
            go_wp2_with fail
            have lc0 := lcell (p0)
            have lc1 := lcell (p1)
            have lc2 := lcell (e0)
            have lc3 := lcell (e1)
            refine region_later (W := W2) (by kernel_rfl) (by kernel_rfl) (Below.refl _ _) ?_
            repeat (go_big_quiet_step (fail))
            refine wpQuiet_nil ?_
            intro W3 hW1
            have HL : Hid (Below W2.heap.size W2 W3) := by obtain ⟨x, rfl⟩ := hW1; exact Lib.hid x.below
            clear hW1 lc0 lc1 lc2 lc3
            have HT2 := Lib.hid (bthen hB2.out HL.out hB2.out.size)
            clear p0 p1 e0 e1
            go_wp2_with fail
            go_ret
            exact ⟨ret_bool HR.out.symm, HT2.out⟩
        · obtain rfl : q = k := by omega
          have HR : Hid (xgoodK L (q + 1) = true) := by unfold Hid; rw [xgoodK_succ, hA.out, xstep_fine HK.out HV.out hN.out]; rfl
          go_wp2_with fail
          go_roundw
          case rel => exact ⟨q + 1, by omega, by go_num, HR, hB2⟩
          case measure => simp [intOf]; omega
    · obtain rfl : k = L.length := by omega
      by_cases h12 : L.length ≤ 10
      · have HR := Lib.hid (xds_fine h12 hA.out)
        go_wp2_with fail
        go_ret
        exact ⟨ret_bool ((decide_eq_true (by omega)).trans HR.out.symm), hB.out⟩
      · have HR := Lib.hid (xds_long h12)
        go_wp2_with fail
        go_ret
        exact ⟨ret_bool ((decide_eq_false (by omega)).trans HR.out.symm), hB.out⟩
theorem xds_impl_v (A : Option Addr) (n c : Nat) (L : List XD) (r : Bool) (h : xdsB L = r) (w : World) (hs : SdsX w w.heap.size A n L) (hm : n ≤ maxLen) (hcap : n ≤ c) :
    Calls Try.prog 19 #[.slice A n c] w fun e w' => e = .returned (.bool r) ∧ Below w.heap.size w w' := h ▸ xds_impl A n c L w hs hm hcap
theorem xgood_spec_v (A : Option Addr) (n c : Nat) (L : List XD) (r : Bool) (h : xdsB L = r) (w : World) (hs : SdsX w w.heap.size A n L) (hm : n ≤ maxLen) :
    Calls Try.prog 63 #[.slice A n c] w fun e w' => e = .returned (.bool r) ∧ Below w.heap.size w w' := h ▸ xgood_spec A n c L w hs hm
theorem xds_spec (A : Option Addr) (n c : Nat) (L : List XD) (w : World) (hs : SdsX w w.heap.size A n L) (hm : n ≤ maxLen) :
    Calls Try.prog 20 #[.slice A n c] w fun e w' => e = .returned (.bool (xdsB L)) ∧ Below w.heap.size w w' := by
  have HS := Lib.hid hs
  clear hs
  obtain ⟨r, hr⟩ : ∃ r, xdsB L = r := ⟨_, rfl⟩
  have HR := Lib.hid hr
  rw [hr]
  clear hr
  go_enter Try.func20, Try.ntmps20
  go_wp2_with fail
  refine (xgood_spec_v A n c L _ HR.out _ HS.out hm).mono ?_
  rintro e w1 ⟨rfl, hb⟩
  have HX := Lib.hid hb
  clear hb
  go_wp2_with fail
  go_ret
  exact ⟨rfl, HX.out⟩
end Go.Proofs.Ytlakdlghkniegaa
