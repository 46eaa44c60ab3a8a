/-
  Raised curves: contracts of impl.RaiseTides, spec.RaiseTides over this translation. Conditions: stated at each theorem.
-/
import Derived.Test.YtdmnkmdlochogaaTv
import Derived.Test.YtdmnkmdlochogaaTc
import Derived.Test.YtdmnkmdlochogaaMid
import Derived.Deep.DeepCutAuto
namespace Go.Proofs.Ytdmnkmdlochogaa
open Go.RowKit

theorem infoTide2 : (Try.prog.info? 50).map (fun i => (i.zero, i.size, i.bytes)) = some (some (.agg #[.int .i64 0, .int .i64 0]), 2, 16) := by kernel_rfl
def rsP (by_ : Int) (p : Int × Int) : Int × Int := (p.1, wrap64 (p.2 + by_))
def rsL (l : List (Int × Int)) (by_ : Int) : List (Int × Int) := l.map (rsP by_)
theorem rsL_len (l : List (Int × Int)) (by_ : Int) : (rsL l by_).length = l.length := by simp [rsL]
theorem rsL_take {l : List (Int × Int)} {k : Nat} {x y : Int} (by_ : Int) (h : l[k]? = some (x, y)) : rsL (l.take (k + 1)) by_ = rsL (l.take k) by_ ++ [(x, wrap64 (y + by_))] := by
  obtain ⟨hk, he⟩ := List.getElem?_eq_some_iff.1 h
  unfold rsL
  rw [List.take_succ_eq_append_getElem hk, he, List.map_append]
  rfl
def rsK (l : List (Int × Int)) (x : Int) : Bool := tideB l && inB x (-3000) 3000 && tideB (rsL l x)
def rsR (l : List (Int × Int)) (x : Int) : List (Int × Int) := if rsK l x then rsL l x else []
theorem rsR_len (l : List (Int × Int)) (x : Int) : (rsR l x).length ≤ 1048576 := by
  unfold rsR
  split
  · rename_i h
    unfold rsK at h
    simp only [Bool.and_eq_true] at h
    have := (tide_parts h.2).1
    omega
  · simp
def RsPost (l : List (Int × Int)) (x : Int) (w : World) : Ending → World → Prop := PairsPost (rsR l x) (rsK l x) w
theorem rs_no {l : List (Int × Int)} {x : Int} {w w' : World} {v : Value} (h : rsK l x = false) (hc : Col w 50 2 v 0 [] w') : RsPost l x w (.returned (.tuple #[v, .bool false])) w' := by
  unfold RsPost rsR
  rw [h]
  exact pairs_of_col (L := []) hc rfl
theorem rs_yes {l : List (Int × Int)} {x : Int} {w w' : World} {v : Value} {n : Nat} (h : rsK l x = true) (hc : Col w 50 2 v n (cells2 (rsL l x)) w') (hn : l.length = n) : RsPost l x w (.returned (.tuple #[v, .bool true])) w' := by
  unfold RsPost rsR
  rw [h, if_pos rfl]
  exact pairs_of_col hc ((rsL_len l x).trans hn)
/-- A number beyond the limits leaves no curve. -/
theorem rs_far {l : List (Int × Int)} {x : Int} (ht : tideB l = true) (h1 : -9223372036854775808 ≤ x) (h2 : x ≤ 9223372036854775807) (hx : inB x (-3000) 3000 = false) : tideB (rsL l x) = false := by
  have hl := (tide_parts ht).1
  have hb := (tide_at ht (k := 0) (by omega)).2
  have hx' := inB_no hx
  obtain ⟨p, hp⟩ : ∃ p, l[0]? = some p := ⟨l[0], List.getElem?_eq_getElem (by omega)⟩
  obtain ⟨u, y⟩ := p
  rw [lv_of hp] at hb
  have hq : (rsL l x)[0]? = some (u, wrap64 (y + x)) := by
    unfold rsL
    rw [List.getElem?_map, hp]; rfl
  have hw : ¬ (-1000 ≤ wrap64 (y + x) ∧ wrap64 (y + x) ≤ 2000) := by unfold wrap64; omega
  refine tideB_bad (tgoodK_bad (k := 0) (by rw [rsL_len]; omega) (tstep_bad hq ?_))
  unfold tideP inB
  rw [decide_eq_false hw, Bool.and_false]
theorem rsL_one (l : List (Int × Int)) (x : Int) : rsL (l.take l.length) x = rsL l x := by rw [List.take_length]
theorem spots_of_col {w w' : World} {e : TypeId} {A : Option Addr} {c n : Nat} {L : List (Int × Int)} (h : Col w e 2 (.slice A n c) n (cells2 L) w') (hn : L.length = n) : Spots w' w'.heap.size A n L :=
  (own2_of_row h.1 hn).spots (Nat.le_refl _)
set_option maxRecDepth 20000 in
set_option maxHeartbeats 1600000 in
theorem raise_impl (A : Option Addr) (n c : Nat) (l : List (Int × Int)) (x : Int) (w : World) (hs : Spots w w.heap.size A n l) (hm : n ≤ maxLen) (h1 : -9223372036854775808 ≤ x) (h2 : x ≤ 9223372036854775807) :
    Calls Try.prog 40 #[.slice A n c, .int .i64 x] w (RsPost l x w) := by
  obtain rfl := hs.1
  obtain ⟨i0, hi, hz0, hz1, hz2⟩ := info_parts infoTide2
  have HI := Lib.hid (And.intro hi (And.intro hz0 (And.intro hz1 hz2)))
  clear hi hz0 hz1 hz2
  have HS := Lib.hid hs
  clear hs
  rcases ht : tideB l with _ | _
  · have HT := Lib.hid ht
    have HK : Hid (rsK l x = false) := by unfold Hid rsK; rw [ht]; rfl
    clear ht
    go_enter Try.func40, Try.ntmps40
    go_wp2_with fail
    refine (isT_v _ _ _ l _ HT.out _ HS.out hm).mono ?_
    rintro e w1 ⟨rfl, hb⟩
    have HE := Lib.hid (rs_no (x := x) HK.out (col_start 50 2 hb))
    clear hb
    go_wp2_with fail
    go_ret2
    exact HE.out
  have HT := Lib.hid ht
  have hlen := (tide_parts ht).1
  obtain ⟨hlen1, hlen2⟩ := hlen
  have HKX : Hid (rsK l x = tideB (rsL l x)) := by
    unfold Hid rsK
    rw [ht]
    rcases hx : inB x (-3000) 3000 with _ | _
    · rw [rs_far ht h1 h2 hx]; rfl
    · rfl
  clear ht
  go_enter Try.func40, Try.ntmps40
  go_wp2_with fail
  refine (isT_v _ _ _ l _ HT.out _ HS.out hm).mono ?_
  rintro e w1 ⟨rfl, hb⟩
  have HN0 : Hid (Col w 50 2 (.slice (some ⟨w1.heap.size, 0, none⟩) 0 0) 0 (cells2 (rsL (l.take 0) x)) (w1.alloc (.cells #[] 50))) := Lib.hid (col_start 50 2 hb)
  clear hb
  go_wp2_with fail
  go_loopw [6, 16] (fun s i wr => ∃ (k : Nat) (v : Value), k ≤ l.length ∧ i = .int .i64 k ∧ s = v ∧ Hid (Col w 50 2 v k (cells2 (rsL (l.take k) x)) wr)) (fun _ i _ => l.length - (intOf i).toNat)
  case atStart => exact ⟨0, _, Nat.zero_le _, rfl, rfl, HN0⟩
  case round =>
    obtain ⟨k, v, hk, rfl, rfl, hR⟩ := hrel
    have HSr := Lib.hid (spots_at HS.out hR.out.2)
    by_cases hlt : k < l.length
    · obtain ⟨b, o, u, y, rfl, hbl, hl, c0, c1⟩ := HSr.out.2 k hlt
      have HV := Lib.hid (rsL_take x hl)
      clear hl hbl
      obtain ⟨W3, hW3⟩ : ∃ W, W = wr.alloc (.cells #[.int .i64 u, .int .i64 y] 50) := ⟨_, rfl⟩
      have HW : Hid (Below wr.heap.size wr W3 ∧ Has W3 wr.heap.size [.int .i64 u, .int .i64 y]) := by rw [hW3]; exact box1 (Below.refl _ _)
      have HR3 := Lib.hid (hR.out.next HW.out.1)
      have a0 := HW.out.2.at_ 0 _ rfl
      have a1 := HW.out.2.at_ 1 _ rfl
      have HE3 := Lib.hid hW3
      clear hW3
      go_upto_region 7 with fail
      rw [← HE3.out]
      clear c0 c1
      go_wp2_with (at_builtin; go_loud (refine wpList_append_own _ rfl _ _ 45 rfl w.heap.size 50 i0 (.agg #[.int .i64 0, .int .i64 0]) 2 16 Try.underlying45 HI.out.1 HI.out.2.1 HI.out.2.2.1 HI.out.2.2.2 rfl (by decide) _ _ _ rfl (HR3.out.1.alloc _) ⟨W3.heap.size, 0, none⟩ 1 1 [.int .i64 u, .int .i64 (wrap64 (y + x))] rfl rfl (two_new _ _ _ _) (by simp [Value.oneCell']) (by unfold maxLen; omega) (by omega) (by have := HR3.out.2.size; simp; omega) ?_; intro v' w5 hown' hgrow _; have HN := Lib.hid (HR3.out.step hown' hgrow); clear hown' hgrow))
      have hn3 := HN.out
      rw [← cells2_snoc, ← HV.out] at hn3
      have HN3 := Lib.hid hn3
      clear hn3
      go_roundw
      case rel => exact ⟨k + 1, _, by omega, by go_num, rfl, HN3⟩
      case measure => simp [intOf]; omega
    · obtain rfl : k = l.length := by omega
      have hR' := hR.out
      rw [rsL_one] at hR'
      obtain ⟨A2, c2, hv2⟩ := own_slice hR'.1
      subst hv2
      have HC := Lib.hid hR'
      have HY := Lib.hid (spots_of_col hR' (rsL_len l x))
      clear hR'
      rcases hk2 : tideB (rsL l x) with _ | _
      · have HK2 := Lib.hid hk2
        have HK := Lib.hid (HKX.out.trans hk2)
        clear hk2
        go_wp2_with fail
        refine (isT_v _ _ _ (rsL l x) _ HK2.out _ HY.out hm).mono ?_
        rintro e w4 ⟨rfl, hb⟩
        have HE := Lib.hid (rs_no HK.out (col_start 50 2 (bthen HC.out.2 hb HC.out.2.size)))
        clear hb
        go_wp2_with fail
        go_ret2
        exact HE.out
      · have HK2 := Lib.hid hk2
        have HK := Lib.hid (HKX.out.trans hk2)
        clear hk2
        go_wp2_with fail
        refine (isT_v _ _ _ (rsL l x) _ HK2.out _ HY.out hm).mono ?_
        rintro e w4 ⟨rfl, hb⟩
        have HE := Lib.hid (rs_yes HK.out (HC.out.next hb) rfl)
        clear hb
        go_wp2_with fail
        go_ret2
        exact HE.out
set_option maxRecDepth 20000 in
set_option maxHeartbeats 1600000 in
theorem raise_spec (A : Option Addr) (n c : Nat) (l : List (Int × Int)) (x : Int) (w : World) (hs : Spots w w.heap.size A n l) (hm : n ≤ maxLen) :
    Calls Try.prog 42 #[.slice A n c, .int .i64 x] w (RsPost l x w) := by
  obtain rfl := hs.1
  obtain ⟨i0, hi, hz0, hz1, hz2⟩ := info_parts infoTide2
  have HI := Lib.hid (And.intro hi (And.intro hz0 (And.intro hz1 hz2)))
  clear hi hz0 hz1 hz2
  have HS := Lib.hid hs
  clear hs
  have HS0 := Lib.hid (spots_alloc HS.out (.cells #[] 50))
  have HC : Hid (Col w 50 2 (.slice (some ⟨w.heap.size, 0, none⟩) 0 0) 0 [] (w.alloc (.cells #[] 50))) := Lib.hid (col_start 50 2 (Below.refl _ _))
  rcases ht : tideB l with _ | _
  · have HT := Lib.hid ht
    have HK : Hid (rsK l x = false) := by unfold Hid rsK; rw [ht]; rfl
    clear ht
    go_enter Try.func42, Try.ntmps42
    go_wp2_with fail
    refine (good_v _ _ _ l _ HT.out _ HS0.out hm).mono ?_
    rintro e w1 ⟨rfl, hb⟩
    have HE := Lib.hid (rs_no (x := x) HK.out (HC.out.next hb))
    clear hb
    go_wp2_with fail
    go_ret2
    exact HE.out
  have HT := Lib.hid ht
  have hlen := (tide_parts ht).1
  obtain ⟨hlen1, hlen2⟩ := hlen
  rcases hx : inB x (-3000) 3000 with _ | _
  · have HX := Lib.hid hx
    have HK : Hid (rsK l x = false) := by unfold Hid rsK; rw [hx, Bool.and_false]; rfl
    clear ht hx
    go_enter Try.func42, Try.ntmps42
    go_wp2_with fail
    refine (good_v _ _ _ l _ HT.out _ HS0.out hm).mono ?_
    rintro e w1 ⟨rfl, hb⟩
    have HE := Lib.hid (rs_no (x := x) HK.out (HC.out.next hb))
    clear hb
    go_wp2_with fail
    refine (l1In_v _ _ _ _ HX.out _).mono ?_
    rintro e w' ⟨rfl, rfl⟩
    go_wp2_with fail
    go_ret2
    exact HE.out
  have HX := Lib.hid hx
  have hxb := inB_yes hx
  obtain ⟨hx1, hx2⟩ := hxb
  have HKX : Hid (rsK l x = tideB (rsL l x)) := by unfold Hid rsK; rw [ht, hx]; rfl
  clear ht hx
  go_enter Try.func42, Try.ntmps42
  go_wp2_with fail
  refine (good_v _ _ _ l _ HT.out _ HS0.out hm).mono ?_
  rintro e w1 ⟨rfl, hb⟩
  have HN0 : Hid (Col w 50 2 (.slice (some ⟨w.heap.size, 0, none⟩) 0 0) 0 (cells2 (rsL (l.take 0) x)) w1) := Lib.hid (HC.out.next hb)
  clear hb
  go_wp2_with fail
  refine (l1In_v _ _ _ _ HX.out _).mono ?_
  rintro e w' ⟨rfl, rfl⟩
  go_wp2_with fail
  go_loopw [6, 7] (fun s i wr => ∃ (k : Nat) (v : Value), k ≤ l.length ∧ i = .int .i64 k ∧ s = v ∧ Hid (Col w 50 2 v k (cells2 (rsL (l.take k) x)) wr)) (fun _ i _ => l.length - (intOf i).toNat)
  case atStart => exact ⟨0, _, Nat.zero_le _, rfl, rfl, HN0⟩
  case round =>
    obtain ⟨k, v, hk, rfl, rfl, hR⟩ := hrel
    have HSr := Lib.hid (spots_at HS.out hR.out.2)
    by_cases hlt : k < l.length
    · obtain ⟨b, o, u, y, rfl, hbl, hl, c0, c1⟩ := HSr.out.2 k hlt
      have HV := Lib.hid (rsL_take x hl)
      have hbd := (tide_at HT.out hlt).2
      rw [lv_of hl] at hbd
      obtain ⟨hbd1, hbd2⟩ := hbd
      have HWR : Hid (y + x = wrap64 (y + x)) := by unfold Hid wrap64; omega
      clear hl hbl
      go_wp2_with fail
      have lc0 := lcell (c0)
      have lc1 := lcell (c1)
      refine region_mid (W := wr) 14 (by kernel_rfl) (by kernel_rfl) (Below.refl _ _) (fun d _ _ _ _ h => by cases d <;> exact h) ?_
      simp only [List.take_succ_cons, List.take_zero, List.drop_succ_cons, List.drop_zero]
      repeat (go_big_quiet_step (fail))
      refine wpQuiet_nil ?_
      intro W3 hW1
      have HL : Hid (Below wr.heap.size wr W3) := by obtain ⟨x, rfl⟩ := hW1; exact Lib.hid x.below
      clear hW1 lc0 lc1
      refine wpOp_step rfl (fun K hK => ?_)
      rw [if_pos (by rfl)]
      go_simp
      refine hK _ _ ⟨⟨⟨_, HL.out.alloc HL.out.size _⟩, rfl⟩, ?_⟩
      clear hK K
      have HR3 := Lib.hid (hR.out.next HL.out)
      clear c0 c1
      refine wpList_append_own _ rfl _ _ 45 rfl w.heap.size 50 i0 (.agg #[.int .i64 0, .int .i64 0]) 2 16 Try.underlying45 HI.out.1 HI.out.2.1 HI.out.2.2.1 HI.out.2.2.2 rfl (by decide) _ _ _ rfl (HR3.out.1.alloc _) ⟨W3.heap.size, 0, none⟩ 1 1 [.int .i64 u, .int .i64 (y + x)] rfl rfl (two_new _ _ _ _) (by simp [Value.oneCell']) (by unfold maxLen; omega) (by omega) (by have := HR3.out.2.size; simp; omega) ?_
      intro v' w5 hown' hgrow _
      have HN := Lib.hid (HR3.out.step hown' hgrow)
      clear hown' hgrow
      have hn3 := HN.out
      rw [← cells2_snoc, HWR.out, ← HV.out] at hn3
      have HN3 := Lib.hid hn3
      clear hn3
      go_wp2_with fail
      go_roundw
      case rel => exact ⟨k + 1, _, by omega, by go_num, rfl, HN3⟩
      case measure => simp [intOf]; omega
    · obtain rfl : k = l.length := by omega
      have hR' := hR.out
      rw [rsL_one] at hR'
      obtain ⟨A2, c2, hv2⟩ := own_slice hR'.1
      subst hv2
      have HC2 := Lib.hid hR'
      have HY := Lib.hid (spots_of_col hR' (rsL_len l x))
      clear hR'
      rcases hk2 : tideB (rsL l x) with _ | _
      · have HK2 := Lib.hid hk2
        have HK := Lib.hid (HKX.out.trans hk2)
        clear hk2
        go_wp2_with fail
        refine (good_v _ _ _ (rsL l x) _ HK2.out _ HY.out hm).mono ?_
        rintro e w4 ⟨rfl, hb⟩
        have HE := Lib.hid (rs_no HK.out (col_start 50 2 (bthen HC2.out.2 hb HC2.out.2.size)))
        clear hb
        go_wp2_with fail
        go_ret2
        exact HE.out
      · have HK2 := Lib.hid hk2
        have HK := Lib.hid (HKX.out.trans hk2)
        clear hk2
        go_wp2_with fail
        refine (good_v _ _ _ (rsL l x) _ HK2.out _ HY.out hm).mono ?_
        rintro e w4 ⟨rfl, hb⟩
        have HE := Lib.hid (rs_yes HK.out (HC2.out.next hb) rfl)
        clear hb
        go_wp2_with fail
        go_ret2
        exact HE.out
end Go.Proofs.Ytdmnkmdlochogaa
