/-
  Gaps of tides: contracts of impl.TideGaps, spec.TideGaps over this translation. Conditions: stated at each theorem.
-/
import Derived.Test.YtdmnkmdlochogaaTl
import Derived.Test.YtdmnkmdlochogaaTc
namespace Go.Proofs.Ytdmnkmdlochogaa
open Go.RowKit

def tgB (l : List (Int × Int)) (i : Nat) : Bool := decide (60 < tmAt l (i + 1) - tmAt l i)
def tgK (l : List (Int × Int)) (k : Nat) : List Int := ((List.range k).filter (tgB l)).map fun i : Nat => (i : Int)
theorem tgK_yes {l : List (Int × Int)} {k : Nat} (h : tgB l k = true) : tgK l (k + 1) = tgK l k ++ [(k : Int)] := by
  unfold tgK; rw [List.range_succ, List.filter_append, List.map_append]; simp [h]
theorem tgK_no {l : List (Int × Int)} {k : Nat} (h : tgB l k = false) : tgK l (k + 1) = tgK l k := by
  unfold tgK; rw [List.range_succ, List.filter_append, List.map_append]; simp [h]
theorem tgK_len (l : List (Int × Int)) (k : Nat) : (tgK l k).length ≤ k := by
  unfold tgK
  have := List.length_filter_le (tgB l) (List.range k)
  simp only [List.length_map, List.length_range] at *
  omega
def tgR (l : List (Int × Int)) : List Int := if tideB l then tgK l (l.length - 1) else []
def tgF (l : List (Int × Int)) : Nat → Int := fun j => (tgR l).getD j 0
theorem tgR_len (l : List (Int × Int)) : (tgR l).length ≤ 1048576 := by
  unfold tgR
  split
  · rename_i h
    have := tgK_len l (l.length - 1)
    have := (tide_parts h).1
    omega
  · simp
theorem tg_no {l : List (Int × Int)} (h : tideB l = false) : tgR l = [] := by unfold tgR; rw [h]; rfl
theorem tg_yes {l : List (Int × Int)} (h : tideB l = true) : tgR l = tgK l (l.length - 1) := by unfold tgR; rw [h]; rfl
def TgPost (l : List (Int × Int)) (w : World) : Ending → World → Prop := IntsPost (tgR l) (tgF l) (tideB l) w
theorem tg_end {l : List (Int × Int)} {L : List Int} {K : Bool} {w w' : World} {v : Value} {n : Nat} (h : Col w 3 1 v n (ivs L) w') (hn : L.length = n) (hL : tgR l = L) (hK : tideB l = K) : TgPost l w (.returned (.tuple #[v, .bool K])) w' := by
  unfold TgPost tgF
  rw [hL, hK]
  exact ints_of_col h hn
set_option maxRecDepth 20000 in
set_option maxHeartbeats 1600000 in
theorem tgaps_impl (A : Option Addr) (n c : Nat) (l : List (Int × Int)) (w : World) (hs : Spots w w.heap.size A n l) (hm : n ≤ maxLen) :
    Calls Try.prog 57 #[.slice A n c] w (TgPost l w) := by
  obtain rfl := hs.1
  obtain ⟨i0, hi, hz0, hz1, hz2⟩ := info_parts info3
  have HI := Lib.hid (And.intro hi (And.intro hz0 (And.intro hz1 hz2)))
  clear hi hz0 hz1 hz2
  have HS := Lib.hid hs
  clear hs
  rcases ht : tideB l with _ | _
  · have HT := Lib.hid ht
    clear ht
    go_enter Try.func57, Try.ntmps57
    go_wp2_with fail
    refine (isT_v _ _ _ l _ HT.out _ HS.out hm).mono ?_
    rintro e w1 ⟨rfl, hb⟩
    have HE := Lib.hid (tg_end (l := l) (L := []) (col_start 3 1 hb) rfl (tg_no HT.out) HT.out)
    clear hb
    go_wp2_with fail
    go_ret2
    exact HE.out
  have HT := Lib.hid ht
  have hlen := (tide_parts ht).1
  obtain ⟨hlen1, hlen2⟩ := hlen
  clear ht
  go_enter Try.func57, Try.ntmps57
  go_wp2_with fail
  refine (isT_v _ _ _ l _ HT.out _ HS.out hm).mono ?_
  rintro e w1 ⟨rfl, hb⟩
  have HN0 : Hid (Col w 3 1 (.slice (some ⟨w1.heap.size, 0, none⟩) 0 0) (tgK l 0).length (ivs (tgK l 0)) (w1.alloc (.cells #[] 3))) := Lib.hid (col_start 3 1 hb)
  clear hb
  go_wp2_with fail
  go_loopw [4, 14] (fun s i wr => ∃ (k : Nat) (v : Value), k + 1 ≤ l.length ∧ i = .int .i64 k ∧ s = v ∧ Hid (Col w 3 1 v (tgK l k).length (ivs (tgK l k)) wr)) (fun _ i _ => l.length - (intOf i).toNat)
  case atStart => exact ⟨0, _, by omega, rfl, rfl, HN0⟩
  case round =>
    obtain ⟨k, v, hk, rfl, rfl, hR⟩ := hrel
    have hlk := tgK_len l k
    have HSr := Lib.hid (spots_at HS.out hR.out.2)
    by_cases hlt : k + 1 < l.length
    · rcases hg : tgB l k with _ | _
      · have HG : Hid (decide (60 < tmAt l (k + 1) - tmAt l k) = false) := hg
        have HV := Lib.hid (tgK_no hg)
        clear hg
        go_wp2_with fail
        refine (tgap_impl _ _ _ l k _ _ HSr.out hm HT.out hlt HG.out).mono ?_
        rintro e W3 ⟨rfl, hb⟩
        have HR3 := Lib.hid (hR.out.next hb)
        clear hb
        have hn3 := HR3.out
        rw [← HV.out] at hn3
        have HN3 := Lib.hid hn3
        clear hn3
        go_wp2_with fail
        go_roundw
        case rel => exact ⟨k + 1, _, by omega, by go_num, rfl, HN3⟩
        case measure => simp [intOf]; omega
      · have HG : Hid (decide (60 < tmAt l (k + 1) - tmAt l k) = true) := hg
        have HV := Lib.hid (tgK_yes hg)
        clear hg
        go_wp2_with fail
        refine (tgap_impl _ _ _ l k _ _ HSr.out hm HT.out hlt HG.out).mono ?_
        rintro e W3 ⟨rfl, hb⟩
        have HR3 := Lib.hid (hR.out.next hb)
        clear hb
        go_wp2_with (at_builtin; go_loud (refine wpList_append_own _ rfl _ _ 39 rfl w.heap.size 3 i0 (.int .i64 0) 1 8 Try.underlying39 HI.out.1 HI.out.2.1 HI.out.2.2.1 HI.out.2.2.2 rfl (by decide) _ _ _ rfl (HR3.out.1.alloc _) ⟨W3.heap.size, 0, none⟩ 1 1 [.int .i64 k] rfl rfl (cell_one_new _ _ _) (by simp [Value.oneCell']) (by unfold maxLen; omega) (by omega) (by have := HR3.out.2.size; simp; omega) ?_; intro v' w5 hown' hgrow _; have HN := Lib.hid (HR3.out.step hown' hgrow); clear hown' hgrow))
        have hn3 := HN.out
        rw [← ivs_snoc, ← HV.out] at hn3
        have hl3 : (tgK l k).length + 1 = (tgK l (k + 1)).length := by rw [HV.out]; simp
        rw [hl3] at hn3
        have HN3 := Lib.hid hn3
        clear hn3 hl3
        go_roundw
        case rel => exact ⟨k + 1, _, by omega, by go_num, rfl, HN3⟩
        case measure => simp [intOf]; omega
    · obtain rfl : k = l.length - 1 := by omega
      have HE := Lib.hid (tg_end hR.out rfl (tg_yes HT.out) HT.out)
      go_wp2_with fail
      go_ret2
      exact HE.out
set_option maxRecDepth 20000 in
set_option maxHeartbeats 1600000 in
theorem tgaps_spec (A : Option Addr) (n c : Nat) (l : List (Int × Int)) (w : World) (hs : Spots w w.heap.size A n l) (hm : n ≤ maxLen) :
    Calls Try.prog 58 #[.slice A n c] w (TgPost l w) := by
  obtain rfl := hs.1
  obtain ⟨i0, hi, hz0, hz1, hz2⟩ := info_parts info3
  have HI := Lib.hid (And.intro hi (And.intro hz0 (And.intro hz1 hz2)))
  clear hi hz0 hz1 hz2
  have HS := Lib.hid hs
  clear hs
  have HS0 := Lib.hid (spots_alloc HS.out (.cells #[] 3))
  have HC : Hid (Col w 3 1 (.slice (some ⟨w.heap.size, 0, none⟩) 0 0) 0 [] (w.alloc (.cells #[] 3))) := Lib.hid (col_start 3 1 (Below.refl _ _))
  rcases ht : tideB l with _ | _
  · have HT := Lib.hid ht
    clear ht
    go_enter Try.func58, Try.ntmps58
    go_wp2_with fail
    refine (good_v _ _ _ l _ HT.out _ HS0.out hm).mono ?_
    rintro e w1 ⟨rfl, hb⟩
    have HE := Lib.hid (tg_end (l := l) (L := []) (HC.out.next hb) rfl (tg_no HT.out) HT.out)
    clear hb
    go_wp2_with fail
    go_ret2
    exact HE.out
  have HT := Lib.hid ht
  have hlen := (tide_parts ht).1
  obtain ⟨hlen1, hlen2⟩ := hlen
  clear ht
  go_enter Try.func58, Try.ntmps58
  go_wp2_with fail
  refine (good_v _ _ _ l _ HT.out _ HS0.out hm).mono ?_
  rintro e w1 ⟨rfl, hb⟩
  have HN0 : Hid (Col w 3 1 (.slice (some ⟨w.heap.size, 0, none⟩) 0 0) (tgK l 0).length (ivs (tgK l 0)) w1) := Lib.hid (HC.out.next hb)
  clear hb
  go_wp2_with fail
  go_loopw [4, 5] (fun s i wr => ∃ (k : Nat) (v : Value), k + 1 ≤ l.length ∧ i = .int .i64 k ∧ s = v ∧ Hid (Col w 3 1 v (tgK l k).length (ivs (tgK l k)) wr)) (fun _ i _ => l.length - (intOf i).toNat)
  case atStart => exact ⟨0, _, by omega, rfl, rfl, HN0⟩
  case round =>
    obtain ⟨k, v, hk, rfl, rfl, hR⟩ := hrel
    have hlk := tgK_len l k
    have HSr := Lib.hid (spots_at HS.out hR.out.2)
    by_cases hlt : k + 1 < l.length
    · obtain ⟨b, o, x, y, rfl, hbl, hl, c0, c1⟩ := HSr.out.2 k (by omega)
      obtain ⟨b', o', x2, y2, hA', hb', hl', d0, d1⟩ := HSr.out.2 (k + 1) hlt
      obtain ⟨rfl, rfl⟩ : b = b' ∧ o = o' := by injection hA' with h; injection h with h h'; exact ⟨h, h'⟩
      have b1 := (tide_at HT.out (k := k) (by omega)).1
      have b2 := (tide_at HT.out hlt).1
      rw [tm_of hl] at b1
      rw [tm_of hl'] at b2
      have HQ : Hid (tgB l k = decide (60 < x2 - x)) := by unfold Hid tgB; rw [tm_of hl, tm_of hl']
      clear hl hl' hA' hb' c1 d1
      go_wp2_with fail
      by_cases hg : 60 < x2 - x
      · have hd := decide_eq_true hg
        have HV := Lib.hid (tgK_yes (HQ.out.trans hd))
        have lc0 := lcell (c0)
        have lc1 := lcell (d0)
        refine region_later (W := wr) (by kernel_rfl) (by kernel_rfl) (Below.refl _ _) ?_
        repeat (go_big_quiet_step (fail))
        refine wpQuiet_nil ?_
        intro W3 hW1
        have HL : Hid (Below wr.heap.size wr W3) := by obtain ⟨x, rfl⟩ := hW1; exact Lib.hid x.below
        clear hW1 lc0 lc1
        have HR3 := Lib.hid (hR.out.next HL.out)
        clear hd c0 d0
        go_wp2_with (at_builtin; go_loud (refine wpList_append_own _ rfl _ _ 39 rfl w.heap.size 3 i0 (.int .i64 0) 1 8 Try.underlying39 HI.out.1 HI.out.2.1 HI.out.2.2.1 HI.out.2.2.2 rfl (by decide) _ _ _ rfl (HR3.out.1.alloc _) ⟨W3.heap.size, 0, none⟩ 1 1 [.int .i64 k] rfl rfl (cell_one_new _ _ _) (by simp [Value.oneCell']) (by unfold maxLen; omega) (by omega) (by have := HR3.out.2.size; simp; omega) ?_; intro v' w5 hown' hgrow _; have HN := Lib.hid (HR3.out.step hown' hgrow); clear hown' hgrow))
        have hn3 := HN.out
        rw [← ivs_snoc, ← HV.out] at hn3
        have hl3 : (tgK l k).length + 1 = (tgK l (k + 1)).length := by rw [HV.out]; simp
        rw [hl3] at hn3
        have HN3 := Lib.hid hn3
        clear hn3 hl3
        go_roundw
        case rel => exact ⟨k + 1, _, by omega, by go_num, rfl, HN3⟩
        case measure => simp [intOf]; omega
      · have hd := decide_eq_false hg
        have HV := Lib.hid (tgK_no (HQ.out.trans hd))
        have lc0 := lcell (c0)
        have lc1 := lcell (d0)
        refine region_later (W := wr) (by kernel_rfl) (by kernel_rfl) (Below.refl _ _) ?_
        repeat (go_big_quiet_step (fail))
        refine wpQuiet_nil ?_
        intro W3 hW1
        have HL : Hid (Below wr.heap.size wr W3) := by obtain ⟨x, rfl⟩ := hW1; exact Lib.hid x.below
        clear hW1 lc0 lc1
        have HR3 := Lib.hid (hR.out.next HL.out)
        clear hd c0 d0
        have hn3 := HR3.out
        rw [← HV.out] at hn3
        have HN3 := Lib.hid hn3
        clear hn3
        go_wp2_with fail
        go_roundw
        case rel => exact ⟨k + 1, _, by omega, by go_num, rfl, HN3⟩
        case measure => simp [intOf]; omega
    · obtain rfl : k = l.length - 1 := by omega
      have HE := Lib.hid (tg_end hR.out rfl (tg_yes HT.out) HT.out)
      go_wp2_with fail
      go_ret2
      exact HE.out
end Go.Proofs.Ytdmnkmdlochogaa
