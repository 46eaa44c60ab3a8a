/-
  Contracts of spec.l3At, impl.HeightOf, spec.HeightOf over this translation. Conditions: stated at each theorem.
-/
import Derived.Test.YtdmnkmdlochogaaPlace
namespace Go.Proofs.Ytdmnkmdlochogaa
open Go.RowKit

def atI (l : List (Int × Int)) (t : Int) : Int := if thereB l t then (atK l t : Int) else -1
theorem atI_yes {l : List (Int × Int)} {t : Int} (h : thereB l t = true) : atI l t = atK l t := by unfold atI; rw [if_pos h]
theorem atI_no {l : List (Int × Int)} {t : Int} (h : thereB l t = false) : atI l t = -1 := by unfold atI; rw [if_neg (by rw [h]; simp)]
theorem at_found {l : List (Int × Int)} {t : Int} {k : Nat} (hk : k < l.length) (h1 : ∀ p, p < k → tmAt l p ≠ t) (h2 : tmAt l k = t) : thereB l t = true ∧ atK l t = k := by
  have e := at_is (Nat.le_of_lt hk) h1 (fun _ => h2)
  exact ⟨by unfold thereB; rw [e]; exact decide_eq_true hk, e⟩
theorem at_none {l : List (Int × Int)} {t : Int} (h1 : ∀ p, p < l.length → tmAt l p ≠ t) : thereB l t = false := by
  have e := at_is (l := l) (t := t) (Nat.le_refl _) h1 (fun h => absurd h (by omega))
  unfold thereB; rw [e]; exact decide_eq_false (by omega)
theorem at_lt {l : List (Int × Int)} {t : Int} (h : thereB l t = true) : atK l t < l.length := of_decide_eq_true h
set_option maxHeartbeats 800000 in
theorem at_spec (id ze : Int) (nm : ByteArray) (A : Option Addr) (n c : Nat) (l : List (Int × Int)) (t : Int) (w : World) (hs : Spots w w.heap.size A n l) (hm : n ≤ maxLen) :
    Calls Try.prog 159 #[.agg #[.int .i64 id, .string nm, .int .i64 ze, .slice A n c], .int .i64 t] w fun e w' => e = .returned (.int .i64 (atI l t)) ∧ Below w.heap.size w w' := by
  obtain rfl := hs.1
  have HX := Lib.hid (box1 (cs := #[.int .i64 id, .string nm, .int .i64 ze, .slice A l.length c]) (T := 26) (Below.refl _ _) (w := w))
  have HS := Lib.hid (spots_alloc hs (.cells #[.int .i64 id, .string nm, .int .i64 ze, .slice A l.length c] 26))
  unfold maxLen at hm
  clear hs
  go_enter Try.func159, Try.ntmps159
  go_wp2_with fail
  go_loop [5] (fun i => ∃ k : Nat, k ≤ l.length ∧ i = .int .i64 k ∧ Hid (∀ p, p < k → tmAt l p ≠ t)) (fun i => l.length - (intOf i).toNat)
  case atStart => exact ⟨0, Nat.zero_le _, rfl, Lib.hid fun p h => absurd h (by omega)⟩
  case round =>
    obtain ⟨k, hk, rfl, hN⟩ := hrel
    by_cases hlt : k < l.length
    · obtain ⟨b, o, x, y, rfl, hb, hl, c0, c1⟩ := HS.out.2 k hlt
      have HT := Lib.hid (tm_of hl)
      clear hl
      by_cases hx : x = t
      · subst hx
        have HR : Hid (atI l x = k) := by obtain ⟨h1, h2⟩ := at_found hlt hN.out HT.out; unfold Hid; rw [atI_yes h1, h2]
        go_wp2_with fail
        go_ret
        exact ⟨ret_int HR.out.symm, HX.out.1⟩
      · have hxb : (x == t) = false := beq_eq_false_iff_ne.2 hx
        have HR : Hid (∀ p, p < k + 1 → tmAt l p ≠ t) := Lib.hid fun p hp => by
          rcases Nat.lt_or_ge p k with h | h
          · exact hN.out p h
          · obtain rfl : p = k := by omega
            rw [HT.out]; exact hx
        go_wp2_with fail
        go_round
        case rel => exact ⟨k + 1, by omega, by go_num, HR⟩
        case measure => simp [intOf]; omega
    · have HR : Hid (atI l t = -1) := atI_no (at_none fun p hp => hN.out p (by omega))
      go_wp2_with fail
      go_ret
      exact ⟨ret_int HR.out.symm, HX.out.1⟩
theorem at_v (id ze : Int) (nm : ByteArray) (A : Option Addr) (n c : Nat) (l : List (Int × Int)) (t v : Int) (h : atI l t = v) (w : World) (hs : Spots w w.heap.size A n l) (hm : n ≤ maxLen) :
    Calls Try.prog 159 #[.agg #[.int .i64 id, .string nm, .int .i64 ze, .slice A n c], .int .i64 t] w fun e w' => e = .returned (.int .i64 v) ∧ Below w.heap.size w w' := h ▸ at_spec id ze nm A n c l t w hs hm

def htK (id ze : Int) (nm : ByteArray) (l : List (Int × Int)) (t : Int) : Bool := gaugeB id nm ze l && thereB l t
def htV (id ze : Int) (nm : ByteArray) (l : List (Int × Int)) (t : Int) : Int := if htK id ze nm l t then lvAt l (atK l t) + ze else 0
def HtPost (id ze : Int) (nm : ByteArray) (l : List (Int × Int)) (t : Int) (w : World) (e : Ending) (w' : World) : Prop :=
  e = .returned (.tuple #[.int .i64 (htV id ze nm l t), .bool (htK id ze nm l t)]) ∧ Below w.heap.size w w'
theorem ht_no {id ze : Int} {nm : ByteArray} {l : List (Int × Int)} {t : Int} {w w' : World} (h : htK id ze nm l t = false) (hb : Below w.heap.size w w') : HtPost id ze nm l t w (.returned (.tuple #[.int .i64 0, .bool false])) w' :=
  ⟨by unfold htV; rw [h]; rfl, hb⟩
theorem ht_yes {id ze : Int} {nm : ByteArray} {l : List (Int × Int)} {t : Int} {w w' : World} {x y : Int} (h : htK id ze nm l t = true) (hl : l[atK l t]? = some (x, y)) (hb : Below w.heap.size w w') : HtPost id ze nm l t w (.returned (.tuple #[.int .i64 (y + ze), .bool true])) w' :=
  ⟨by unfold htV; rw [h, if_pos rfl, lv_of hl], hb⟩
set_option maxHeartbeats 1600000 in
theorem height_spec (id ze : Int) (nm : ByteArray) (A : Option Addr) (n c : Nat) (l : List (Int × Int)) (t : Int) (w : World) (hs : Spots w w.heap.size A n l) (hm : n ≤ maxLen) (hn : nm.size ≤ maxLen) :
    Calls Try.prog 92 #[.agg #[.int .i64 id, .string nm, .int .i64 ze, .slice A n c], .int .i64 t] w (HtPost id ze nm l t w) := by
  obtain rfl := hs.1
  have HX := Lib.hid (box1 (cs := #[.int .i64 id, .string nm, .int .i64 ze, .slice A l.length c]) (T := 26) (Below.refl _ _) (w := w))
  have HS := Lib.hid (spots_alloc hs (.cells #[.int .i64 id, .string nm, .int .i64 ze, .slice A l.length c] 26))
  clear hs
  rcases hg : gaugeB id nm ze l with _ | _
  · have HG := Lib.hid hg
    have HR : Hid (htK id ze nm l t = false) := by unfold Hid htK; rw [hg]; rfl
    clear hg
    go_enter Try.func92, Try.ntmps92
    go_wp2_with fail
    refine (at_spec _ _ _ _ _ _ l _ _ HS.out hm).mono ?_
    rintro e w1 ⟨rfl, hb⟩
    have HB1 := Lib.hid (And.intro (bthen HX.out.1 hb HX.out.1.size) (HX.out.2.next hb))
    have HS1 := Lib.hid (spots_more HS.out hb)
    clear hb
    have a0 := HB1.out.2.at_ 0 _ rfl
    have a1 := HB1.out.2.at_ 1 _ rfl
    have a2 := HB1.out.2.at_ 2 _ rfl
    have a3 := HB1.out.2.at_ 3 _ rfl
    go_wp2_with fail
    refine (one_v _ _ _ _ _ _ l _ HG.out _ HS1.out hm hn).mono ?_
    rintro e w2 ⟨rfl, hb⟩
    have HB2 := Lib.hid (bthen HB1.out.1 hb HB1.out.1.size)
    clear hb a0 a1 a2 a3
    go_wp2_with fail
    go_ret2
    exact ht_no HR.out HB2.out
  rcases ht : thereB l t with _ | _
  · have HG := Lib.hid hg
    have HI := Lib.hid (atI_no ht)
    have HR : Hid (htK id ze nm l t = false) := by unfold Hid htK; rw [hg, ht]; rfl
    clear hg ht
    go_enter Try.func92, Try.ntmps92
    go_wp2_with fail
    refine (at_v _ _ _ _ _ _ l _ _ HI.out _ HS.out hm).mono ?_
    rintro e w1 ⟨rfl, hb⟩
    have HB1 := Lib.hid (And.intro (bthen HX.out.1 hb HX.out.1.size) (HX.out.2.next hb))
    have HS1 := Lib.hid (spots_more HS.out hb)
    clear hb
    have a0 := HB1.out.2.at_ 0 _ rfl
    have a1 := HB1.out.2.at_ 1 _ rfl
    have a2 := HB1.out.2.at_ 2 _ rfl
    have a3 := HB1.out.2.at_ 3 _ rfl
    go_wp2_with fail
    refine (one_v _ _ _ _ _ _ l _ HG.out _ HS1.out hm hn).mono ?_
    rintro e w2 ⟨rfl, hb⟩
    have HB2 := Lib.hid (bthen HB1.out.1 hb HB1.out.1.size)
    clear hb a0 a1 a2 a3
    go_wp2_with fail
    go_ret2
    exact ht_no HR.out HB2.out
  · have HG := Lib.hid hg
    have HI := Lib.hid (atI_yes ht)
    have HR : Hid (htK id ze nm l t = true) := by unfold Hid htK; rw [hg, ht]; rfl
    have hlt := at_lt ht
    have hbd := read_at (good_of_gauge hg).2.2.2.2 hlt
    have hzb := inB_yes (good_of_gauge hg).2.2.1
    clear hg ht
    obtain ⟨k, hk⟩ : ∃ k, k = atK l t := ⟨_, rfl⟩
    rw [← hk] at HI hlt hbd
    have HK := Lib.hid hk
    clear hk
    go_enter Try.func92, Try.ntmps92
    go_wp2_with fail
    refine (at_v _ _ _ _ _ _ l _ _ HI.out _ HS.out hm).mono ?_
    rintro e w1 ⟨rfl, hb⟩
    have HB1 := Lib.hid (And.intro (bthen HX.out.1 hb HX.out.1.size) (HX.out.2.next hb))
    have HS1 := Lib.hid (spots_more HS.out hb)
    clear hb
    have a0 := HB1.out.2.at_ 0 _ rfl
    have a1 := HB1.out.2.at_ 1 _ rfl
    have a2 := HB1.out.2.at_ 2 _ rfl
    have a3 := HB1.out.2.at_ 3 _ rfl
    go_wp2_with fail
    refine (one_v _ _ _ _ _ _ l _ HG.out _ HS1.out hm hn).mono ?_
    rintro e w2 ⟨rfl, hb⟩
    have HB2 := Lib.hid (And.intro (bthen HB1.out.1 hb HB1.out.1.size) (HB1.out.2.next hb))
    have HS2 := Lib.hid (spots_more HS1.out hb)
    clear hb a0 a1 a2 a3
    have a2 := HB2.out.2.at_ 2 _ rfl
    have a3 := HB2.out.2.at_ 3 _ rfl
    obtain ⟨b, o, x, y, rfl, hb, hl, c0, c1⟩ := HS2.out.2 k hlt
    have HL := Lib.hid hl
    rw [lv_of hl] at hbd
    clear hl
    obtain ⟨hbd1, hbd2, hbd3⟩ := hbd
    unfold maxLen at hm
    go_wp2_with fail
    have HQ := HL
    have lc0 := lcell (a2)
    have lc1 := lcell (a3)
    have lc2 := lcell (c0)
    have lc3 := lcell (c1)
    refine region_later (W := w2) (by kernel_rfl) (by kernel_rfl) (Below.refl _ _) ?_
    repeat (go_big_quiet_step (fail))
    refine wpQuiet_nil ?_
    intro W1 hW1
    have HL : Hid (Below w2.heap.size w2 W1) := by obtain ⟨x, rfl⟩ := hW1; exact Lib.hid x.below
    clear hW1 lc0 lc1 lc2 lc3
    have HT := Lib.hid (bthen HB2.out.1 HL.out HB2.out.1.size)
    go_wp2_with fail
    go_ret2
    exact ht_yes HR.out (by rw [← HK.out]; exact HQ.out) HT.out
set_option maxHeartbeats 1600000 in
theorem height_impl (id ze : Int) (nm : ByteArray) (A : Option Addr) (n c : Nat) (l : List (Int × Int)) (t : Int) (w : World) (hs : Spots w w.heap.size A n l) (hm : n ≤ maxLen) (hn : nm.size ≤ maxLen) :
    Calls Try.prog 90 #[.agg #[.int .i64 id, .string nm, .int .i64 ze, .slice A n c], .int .i64 t] w (HtPost id ze nm l t w) := by
  obtain rfl := hs.1
  have HX := Lib.hid (box1 (cs := #[.int .i64 id, .string nm, .int .i64 ze, .slice A l.length c]) (T := 26) (Below.refl _ _) (w := w))
  have HS := Lib.hid (spots_alloc hs (.cells #[.int .i64 id, .string nm, .int .i64 ze, .slice A l.length c] 26))
  clear hs
  rcases hg : gaugeB id nm ze l with _ | _
  · have HG := Lib.hid hg
    have HR : Hid (htK id ze nm l t = false) := by unfold Hid htK; rw [hg]; rfl
    clear hg
    go_enter Try.func90, Try.ntmps90
    go_wp2_with fail
    refine (isGauge_v _ _ _ _ _ _ l _ HG.out _ HS.out hm hn).mono ?_
    rintro e w1 ⟨rfl, hb⟩
    have HB1 := Lib.hid (bthen HX.out.1 hb HX.out.1.size)
    clear hb
    go_wp2_with fail
    go_ret2
    exact ht_no HR.out HB1.out
  have HG := Lib.hid hg
  have HGG := Lib.hid (good_of_gauge hg)
  have hzb := inB_yes (good_of_gauge hg).2.2.1
  have h15 := (good_of_gauge hg).2.2.2.1
  clear hg
  go_enter Try.func90, Try.ntmps90
  go_wp2_with fail
  refine (isGauge_v _ _ _ _ _ _ l _ HG.out _ HS.out hm hn).mono ?_
  rintro e w1 ⟨rfl, hb⟩
  have HB1 := Lib.hid (And.intro (bthen HX.out.1 hb HX.out.1.size) (HX.out.2.next hb))
  have HS1 := Lib.hid (spots_more HS.out hb)
  clear hb
  have a3 := HB1.out.2.at_ 3 _ rfl
  go_wp2_with fail
  refine (placeOf_any _ _ _ l _ _ HS1.out (by omega) (asc_of_good HGG.out.2.2.2.2)).mono ?_
  rintro e w2 ⟨k, hlb, rfl, hb⟩
  have HB2 := Lib.hid (And.intro (bthen HB1.out.1 hb HB1.out.1.size) (HB1.out.2.next hb))
  have HS2 := Lib.hid (spots_more HS1.out hb)
  have HLB := Lib.hid hlb
  clear hb hlb a3
  rcases hh : hitB l t k with _ | _
  · have HR : Hid (htK id ze nm l t = false) := by unfold Hid htK; rw [lb_miss (asc_of_good HGG.out.2.2.2.2) HLB.out hh, Bool.and_false]
    clear hh
    go_wp2_with fail
    go_ret2
    exact ht_no HR.out HB2.out.1
  · have HA := Lib.hid (lb_hit HLB.out hh)
    have HR : Hid (htK id ze nm l t = true) := by unfold Hid htK; rw [HG.out, HA.out.2]; rfl
    have hlt : k < l.length := (of_decide_eq_true hh).1
    have hbd := read_at HGG.out.2.2.2.2 hlt
    clear hh
    have a2 := HB2.out.2.at_ 2 _ rfl
    have a3 := HB2.out.2.at_ 3 _ rfl
    obtain ⟨b, o, x, y, rfl, hb, hl, c0, c1⟩ := HS2.out.2 k hlt
    have HQ := Lib.hid hl
    rw [lv_of hl] at hbd
    clear hl
    obtain ⟨hbd1, hbd2, hbd3⟩ := hbd
    go_wp2_with fail
    have lc0 := lcell (a2)
    have lc1 := lcell (a3)
    have lc2 := lcell (c0)
    have lc3 := lcell (c1)
    refine region_later (W := w2) (by kernel_rfl) (by kernel_rfl) (Below.refl _ _) ?_
    repeat (go_big_quiet_step (fail))
    refine wpQuiet_nil ?_
    intro W1 hW1
    have HL : Hid (Below w2.heap.size w2 W1) := by obtain ⟨x, rfl⟩ := hW1; exact Lib.hid x.below
    clear hW1 lc0 lc1 lc2 lc3
    have HT := Lib.hid (bthen HB2.out.1 HL.out HB2.out.1.size)
    go_wp2_with fail
    go_ret2
    exact ht_yes HR.out (by rw [HA.out.1]; exact HQ.out) HT.out
end Go.Proofs.Ytdmnkmdlochogaa
