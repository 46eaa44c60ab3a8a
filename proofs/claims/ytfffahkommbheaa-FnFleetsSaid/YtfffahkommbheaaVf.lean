/-
  Craft that float: contracts of impl.isDepth, spec.l2Depth, impl.FloatsOver, spec.FloatsOver over this translation. Conditions: stated at each theorem.
-/
import Derived.Test.YtfffahkommbheaaVx
import Derived.Test.YtfffahkommbheaaTc
import Derived.Deep.DeepCutAuto
namespace Go.Proofs.Ytfffahkommbheaa
open Go.RowKit

theorem isDepth_v (n : Int) (b : Bool) (h : inB n (-1000) 20000 = b) (w : World) :
    Calls Try.prog 90 #[.int .i64 n] w fun e w' => e = .returned (.bool b) ∧ w = w' := by
  have H := Lib.hid h
  clear h
  go_enter Try.func90, Try.ntmps90
  go_wp2_with fail
  refine (within_v _ _ _ _ H.out _).mono ?_
  rintro e w' ⟨rfl, rfl⟩
  go_wp2_with fail
  go_ret
  exact ⟨rfl, rfl⟩
theorem l2Depth_v (n : Int) (b : Bool) (h : inB n (-1000) 20000 = b) (w : World) :
    Calls Try.prog 93 #[.int .i64 n] w fun e w' => e = .returned (.bool b) ∧ w = w' := by
  have H := Lib.hid h
  clear h
  go_enter Try.func93, Try.ntmps93
  go_wp2_with fail
  refine (l1In_v _ _ _ _ H.out _).mono ?_
  rintro e w' ⟨rfl, rfl⟩
  go_wp2_with fail
  go_ret
  exact ⟨rfl, rfl⟩
def flB (d u : Int) (v : CC) : Bool := decide (v.dr + u ≤ d)
/-- The Ids of those of the first k craft that float. -/
def flL (L : List CC) (d u : Int) (k : Nat) : List Int := ((L.take k).filter (flB d u)).map CC.id
theorem take_more {L : List CC} {k : Nat} {v : CC} (h : L[k]? = some v) : L.take (k + 1) = L.take k ++ [v] := by rw [List.take_add_one, h]; rfl
theorem flL_yes {L : List CC} {d u : Int} {k : Nat} {v : CC} (h : L[k]? = some v) (hb : flB d u v = true) : flL L d u (k + 1) = flL L d u k ++ [v.id] := by
  unfold flL; rw [take_more h, List.filter_append, List.map_append]; simp [hb]
theorem flL_no {L : List CC} {d u : Int} {k : Nat} {v : CC} (h : L[k]? = some v) (hb : flB d u v = false) : flL L d u (k + 1) = flL L d u k := by
  unfold flL; rw [take_more h, List.filter_append, List.map_append]; simp [hb]
theorem flL_len (L : List CC) (d u : Int) (k : Nat) : (flL L d u k).length ≤ L.length := by
  unfold flL
  have h1 := List.length_filter_le (flB d u) (L.take k)
  have h2 := List.length_take_le k L
  have h3 := List.length_take_le' k L
  simp only [List.length_map] at *
  omega
def flK (L : List CC) (d u : Int) : Bool := areC L && inB d (-1000) 20000 && inB u 0 500
def flR (L : List CC) (d u : Int) : List Int := if flK L d u then flL L d u L.length else []
def flF (L : List CC) (d u : Int) : Nat → Int := fun j => (flR L d u).getD j 0
theorem flR_len (L : List CC) (d u : Int) : (flR L d u).length ≤ L.length := by
  unfold flR
  split
  · exact flL_len L d u _
  · simp
theorem fl_no {L : List CC} {d u : Int} (h : flK L d u = false) : flR L d u = [] := by unfold flR; rw [h]; rfl
theorem fl_yes {L : List CC} {d u : Int} (h : flK L d u = true) : flR L d u = flL L d u L.length := by unfold flR; rw [h]; rfl
def FlPost (L : List CC) (d u : Int) (w : World) : Ending → World → Prop := IntsPost (flR L d u) (flF L d u) (flK L d u) w
theorem fl_end {L : List CC} {d u : Int} {M : List Int} {K : Bool} {w w' : World} {v : Value} {n : Nat} (h : Col w 3 1 v n (ivs M) w') (hn : M.length = n) (hL : flR L d u = M) (hK : flK L d u = K) : FlPost L d u w (.returned (.tuple #[v, .bool K])) w' := by
  unfold FlPost flF
  rw [hL, hK]
  exact ints_of_col h hn
theorem flK_1 {L : List CC} {d u : Int} (h : areC L = false) : flK L d u = false := by unfold flK; rw [h]; rfl
theorem flK_2 {L : List CC} {d u : Int} (h : inB d (-1000) 20000 = false) : flK L d u = false := by unfold flK; rw [h, Bool.and_false]; rfl
theorem flK_3 {L : List CC} {d u : Int} (h : inB u 0 500 = false) : flK L d u = false := by unfold flK; rw [h, Bool.and_false]
theorem flK_4 {L : List CC} {d u : Int} (h1 : areC L = true) (h2 : inB d (-1000) 20000 = true) (h3 : inB u 0 500 = true) : flK L d u = true := by unfold flK; rw [h1, h2, h3]; rfl
set_option maxRecDepth 20000 in
set_option maxHeartbeats 3200000 in
theorem float_impl (A : Option Addr) (n c : Nat) (L : List CC) (d u : Int) (w : World) (hs : Crafts w w.heap.size A n L) (hm : n ≤ maxLen) (hcap : n ≤ c) :
    Calls Try.prog 23 #[.slice A n c, .int .i64 d, .int .i64 u] w (FlPost L d u w) := by
  obtain rfl := hs.1
  obtain ⟨i0, hi, hz0, hz1, hz2⟩ := info_parts info3
  have HI := Lib.hid (And.intro hi (And.intro hz0 (And.intro hz1 hz2)))
  clear hi hz0 hz1 hz2
  have HS := Lib.hid hs
  clear hs
  rcases ha : areC L with _ | _
  · have HA := Lib.hid ha
    clear ha
    go_enter Try.func23, Try.ntmps23
    go_wp2_with fail
    refine (areC_v _ _ _ L _ HA.out _ HS.out hm hcap).mono ?_
    rintro e w1 ⟨rfl, hb⟩
    have HE := Lib.hid (fl_end (L := L) (d := d) (u := u) (M := []) (col_start 3 1 hb) rfl (fl_no (flK_1 HA.out)) (flK_1 HA.out))
    clear hb
    go_wp2_with fail
    go_ret2
    exact HE.out
  rcases hd : inB d (-1000) 20000 with _ | _
  · have HA := Lib.hid ha
    have HD := Lib.hid hd
    clear ha hd
    go_enter Try.func23, Try.ntmps23
    go_wp2_with fail
    refine (areC_v _ _ _ L _ HA.out _ HS.out hm hcap).mono ?_
    rintro e w1 ⟨rfl, hb⟩
    have HE := Lib.hid (fl_end (L := L) (d := d) (u := u) (M := []) (col_start 3 1 hb) rfl (fl_no (flK_2 HD.out)) (flK_2 HD.out))
    clear hb
    go_wp2_with fail
    refine (isDepth_v _ _ HD.out _).mono ?_
    rintro e w' ⟨rfl, rfl⟩
    go_wp2_with fail
    go_ret2
    exact HE.out
  rcases hu : inB u 0 500 with _ | _
  · have HA := Lib.hid ha
    have HD := Lib.hid hd
    have HU := Lib.hid hu
    clear ha hd hu
    go_enter Try.func23, Try.ntmps23
    go_wp2_with fail
    refine (areC_v _ _ _ L _ HA.out _ HS.out hm hcap).mono ?_
    rintro e w1 ⟨rfl, hb⟩
    have HE := Lib.hid (fl_end (L := L) (d := d) (u := u) (M := []) (col_start 3 1 hb) rfl (fl_no (flK_3 HU.out)) (flK_3 HU.out))
    clear hb
    go_wp2_with fail
    refine (isDepth_v _ _ HD.out _).mono ?_
    rintro e w' ⟨rfl, rfl⟩
    go_wp2_with fail
    refine (within_v _ _ _ _ HU.out _).mono ?_
    rintro e w' ⟨rfl, rfl⟩
    go_wp2_with fail
    go_ret2
    exact HE.out
  have HK := Lib.hid (flK_4 ha hd hu)
  have HA := Lib.hid ha
  have HD := Lib.hid hd
  have HU := Lib.hid hu
  have hu2 := inB_yes hu
  obtain ⟨hu21, hu22⟩ := hu2
  have hl6 := (areC_parts ha).1
  clear ha hd hu
  go_enter Try.func23, Try.ntmps23
  go_wp2_with fail
  refine (areC_v _ _ _ L _ HA.out _ HS.out hm hcap).mono ?_
  rintro e w1 ⟨rfl, hb⟩
  have HN0 : Hid (Col w 3 1 (.slice (some ⟨w1.heap.size, 0, none⟩) 0 0) (flL L d u 0).length (ivs (flL L d u 0)) (w1.alloc (.cells #[] 3))) := Lib.hid (col_start 3 1 hb)
  clear hb
  go_wp2_with fail
  refine (isDepth_v _ _ HD.out _).mono ?_
  rintro e w' ⟨rfl, rfl⟩
  go_wp2_with fail
  refine (within_v _ _ _ _ HU.out _).mono ?_
  rintro e w' ⟨rfl, rfl⟩
  go_wp2_with fail
  go_loopw [8, 28] (fun s i wr => ∃ (k : Nat) (v : Value), k ≤ L.length ∧ i = .int .i64 k ∧ s = v ∧ Hid (Col w 3 1 v (flL L d u k).length (ivs (flL L d u k)) wr)) (fun _ i _ => L.length - (intOf i).toNat)
  case atStart => exact ⟨0, _, by omega, rfl, rfl, HN0⟩
  case round =>
    obtain ⟨k, q, hk, rfl, rfl, hR⟩ := hrel
    have hlk := flL_len L d u k
    by_cases hlt : k < L.length
    · obtain ⟨b, o, v, rfl, hbl, hL, hn, c0, c1, c2, c3, c4, c5, c6⟩ := (crafts_at HS.out hR.out.2).2 k hlt
      have HL0 := Lib.hid hL
      obtain ⟨_, ⟨r1, r2⟩, _⟩ := craftB_parts (areC_at HA.out hL)
      obtain ⟨W0, hW0⟩ : ∃ W0, W0 = wr.alloc (.cells #[.int .i64 v.id, .string v.nm, .int .i64 v.dr, .int .i64 v.ah, .int .i64 v.be, .int .i64 v.sp, .int .i64 v.fu] 31) := ⟨_, rfl⟩
      have HW : Hid (Below wr.heap.size wr W0 ∧ Has W0 wr.heap.size [.int .i64 v.id, .string v.nm, .int .i64 v.dr, .int .i64 v.ah, .int .i64 v.be, .int .i64 v.sp, .int .i64 v.fu]) := by rw [hW0]; exact box1 (Below.refl _ _)
      have HR0 := Lib.hid (hR.out.next HW.out.1)
      have a0 := HW.out.2.at_ 0 _ rfl
      have a2 := HW.out.2.at_ 2 _ rfl
      have HE := Lib.hid hW0
      clear hW0 hL
      go_upto_region 7 with fail
      rw [← HE.out]
      clear c0 c1 c2 c3 c4 c5 c6
      by_cases hg : v.dr + u ≤ d
      · have hd := decide_eq_true hg
        have HV := Lib.hid (flL_yes (d := d) (u := u) HL0.out hd)
        go_wp2_with (at_builtin; go_loud (refine wpList_append_own _ rfl _ _ 34 rfl w.heap.size 3 i0 (.int .i64 0) 1 8 Try.underlying34 HI.out.1 HI.out.2.1 HI.out.2.2.1 HI.out.2.2.2 rfl (by decide) _ _ _ rfl (HR0.out.1.alloc _) ⟨W0.heap.size, 0, none⟩ 1 1 [.int .i64 v.id] rfl rfl (cell_one_new _ _ _) (by simp [Value.oneCell']) (by unfold maxLen; omega) (by omega) (by have := HR0.out.2.size; simp; omega) ?_; intro v' w5 hown' hgrow _; have HN := Lib.hid (HR0.out.step hown' hgrow); clear hown' hgrow))
        have hn3 := HN.out
        rw [← ivs_snoc, ← HV.out] at hn3
        have hl3 : (flL L d u k).length + 1 = (flL L d u (k + 1)).length := by rw [HV.out]; simp
        rw [hl3] at hn3
        have HN3 := Lib.hid hn3
        clear hn3 hl3
        go_roundw
        case rel => exact ⟨k + 1, _, by omega, by go_num, rfl, HN3⟩
        case measure => simp [intOf]; omega
      · have hd := decide_eq_false hg
        have HV := Lib.hid (flL_no (d := d) (u := u) HL0.out hd)
        have hn3 := HR0.out
        rw [← HV.out] at hn3
        have HN3 := Lib.hid hn3
        clear hn3
        go_wp2_with fail
        go_roundw
        case rel => exact ⟨k + 1, _, by omega, by go_num, rfl, HN3⟩
        case measure => simp [intOf]; omega
    · obtain rfl : k = L.length := by omega
      have HE := Lib.hid (fl_end hR.out rfl (fl_yes HK.out) HK.out)
      go_wp2_with fail
      go_ret2
      exact HE.out
set_option maxRecDepth 20000 in
set_option maxHeartbeats 3200000 in
theorem float_spec (A : Option Addr) (n c : Nat) (L : List CC) (d u : Int) (w : World) (hs : Crafts w w.heap.size A n L) (hm : n ≤ maxLen) :
    Calls Try.prog 27 #[.slice A n c, .int .i64 d, .int .i64 u] w (FlPost L d u w) := by
  obtain rfl := hs.1
  obtain ⟨i0, hi, hz0, hz1, hz2⟩ := info_parts info3
  have HI := Lib.hid (And.intro hi (And.intro hz0 (And.intro hz1 hz2)))
  clear hi hz0 hz1 hz2
  have HS := Lib.hid hs
  clear hs
  have HS0 := Lib.hid (crafts_at HS.out ((Below.refl _ w).alloc (Nat.le_refl _) (.cells #[] 3)))
  have HC : Hid (Col w 3 1 (.slice (some ⟨w.heap.size, 0, none⟩) 0 0) 0 [] (w.alloc (.cells #[] 3))) := Lib.hid (col_start 3 1 (Below.refl _ _))
  rcases ha : areC L with _ | _
  · have HA := Lib.hid ha
    clear ha
    go_enter Try.func27, Try.ntmps27
    go_wp2_with fail
    refine (goodC_v _ _ _ L _ HA.out _ HS0.out hm).mono ?_
    rintro e w1 ⟨rfl, hb⟩
    have HE := Lib.hid (fl_end (L := L) (d := d) (u := u) (M := []) (HC.out.next hb) rfl (fl_no (flK_1 HA.out)) (flK_1 HA.out))
    clear hb
    go_wp2_with fail
    go_ret2
    exact HE.out
  rcases hd : inB d (-1000) 20000 with _ | _
  · have HA := Lib.hid ha
    have HD := Lib.hid hd
    clear ha hd
    go_enter Try.func27, Try.ntmps27
    go_wp2_with fail
    refine (goodC_v _ _ _ L _ HA.out _ HS0.out hm).mono ?_
    rintro e w1 ⟨rfl, hb⟩
    have HE := Lib.hid (fl_end (L := L) (d := d) (u := u) (M := []) (HC.out.next hb) rfl (fl_no (flK_2 HD.out)) (flK_2 HD.out))
    clear hb
    go_wp2_with fail
    refine (l2Depth_v _ _ HD.out _).mono ?_
    rintro e w' ⟨rfl, rfl⟩
    go_wp2_with fail
    go_ret2
    exact HE.out
  rcases hu : inB u 0 500 with _ | _
  · have HA := Lib.hid ha
    have HD := Lib.hid hd
    have HU := Lib.hid hu
    clear ha hd hu
    go_enter Try.func27, Try.ntmps27
    go_wp2_with fail
    refine (goodC_v _ _ _ L _ HA.out _ HS0.out hm).mono ?_
    rintro e w1 ⟨rfl, hb⟩
    have HE := Lib.hid (fl_end (L := L) (d := d) (u := u) (M := []) (HC.out.next hb) rfl (fl_no (flK_3 HU.out)) (flK_3 HU.out))
    clear hb
    go_wp2_with fail
    refine (l2Depth_v _ _ HD.out _).mono ?_
    rintro e w' ⟨rfl, rfl⟩
    go_wp2_with fail
    refine (l1In_v _ _ _ _ HU.out _).mono ?_
    rintro e w' ⟨rfl, rfl⟩
    go_wp2_with fail
    go_ret2
    exact HE.out
  have HK := Lib.hid (flK_4 ha hd hu)
  have HA := Lib.hid ha
  have HD := Lib.hid hd
  have HU := Lib.hid hu
  have hu2 := inB_yes hu
  obtain ⟨hu21, hu22⟩ := hu2
  have hl6 := (areC_parts ha).1
  clear ha hd hu
  go_enter Try.func27, Try.ntmps27
  go_wp2_with fail
  refine (goodC_v _ _ _ L _ HA.out _ HS0.out hm).mono ?_
  rintro e w1 ⟨rfl, hb⟩
  have HN0 : Hid (Col w 3 1 (.slice (some ⟨w.heap.size, 0, none⟩) 0 0) (flL L d u 0).length (ivs (flL L d u 0)) w1) := Lib.hid (HC.out.next hb)
  clear hb
  go_wp2_with fail
  refine (l2Depth_v _ _ HD.out _).mono ?_
  rintro e w' ⟨rfl, rfl⟩
  go_wp2_with fail
  refine (l1In_v _ _ _ _ HU.out _).mono ?_
  rintro e w' ⟨rfl, rfl⟩
  go_wp2_with fail
  go_loopw [8, 9] (fun s i wr => ∃ (k : Nat) (v : Value), k ≤ L.length ∧ i = .int .i64 k ∧ s = v ∧ Hid (Col w 3 1 v (flL L d u k).length (ivs (flL L d u k)) wr)) (fun _ i _ => L.length - (intOf i).toNat)
  case atStart => exact ⟨0, _, by omega, rfl, rfl, HN0⟩
  case round =>
    obtain ⟨k, q, hk, rfl, rfl, hR⟩ := hrel
    have hlk := flL_len L d u k
    obtain ⟨W0, rfl⟩ : ∃ W : World, W = wr := ⟨_, rfl⟩
    by_cases hlt : k < L.length
    · obtain ⟨b, o, v, rfl, hbl, hL, hn, c0, c1, c2, c3, c4, c5, c6⟩ := (crafts_at HS.out hR.out.2).2 k hlt
      have HL0 := Lib.hid hL
      obtain ⟨_, ⟨r1, r2⟩, _⟩ := craftB_parts (areC_at HA.out hL)
      clear hL c1 c3 c4 c5 c6
      by_cases hg : v.dr + u ≤ d
      · have hd := decide_eq_true hg
        have HV := Lib.hid (flL_yes (d := d) (u := u) HL0.out hd)
        go_wp2_with (at_builtin; go_loud (refine wpList_append_own _ rfl _ _ 34 rfl w.heap.size 3 i0 (.int .i64 0) 1 8 Try.underlying34 HI.out.1 HI.out.2.1 HI.out.2.2.1 HI.out.2.2.2 rfl (by decide) _ _ _ rfl (hR.out.1.alloc _) ⟨W0.heap.size, 0, none⟩ 1 1 [.int .i64 v.id] rfl rfl (cell_one_new _ _ _) (by simp [Value.oneCell']) (by unfold maxLen; omega) (by omega) (by have := hR.out.2.size; simp; omega) ?_; intro v' w5 hown' hgrow _; have HN := Lib.hid (hR.out.step hown' hgrow); clear hown' hgrow))
        have hn3 := HN.out
        rw [← ivs_snoc, ← HV.out] at hn3
        have hl3 : (flL L d u k).length + 1 = (flL L d u (k + 1)).length := by rw [HV.out]; simp
        rw [hl3] at hn3
        have HN3 := Lib.hid hn3
        clear hn3 hl3
        go_roundw
        case rel => exact ⟨k + 1, _, by omega, by go_num, rfl, HN3⟩
        case measure => simp [intOf]; omega
      · have hd := decide_eq_false hg
        have HV := Lib.hid (flL_no (d := d) (u := u) HL0.out hd)
        have hn3 := hR.out
        rw [← HV.out] at hn3
        have HN3 := Lib.hid hn3
        clear hn3
        go_wp2_with fail
        go_roundw
        case rel => exact ⟨k + 1, _, by omega, by go_num, rfl, HN3⟩
        case measure => simp [intOf]; omega
    · obtain rfl : k = L.length := by omega
      have HE := Lib.hid (fl_end hR.out rfl (fl_yes HK.out) HK.out)
      go_wp2_with fail
      go_ret2
      exact HE.out
end Go.Proofs.Ytfffahkommbheaa
