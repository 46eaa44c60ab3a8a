/-
  Contracts of spec.l3Common, impl.CommonTimes, spec.CommonTimes over this translation. Conditions: stated at each theorem.
-/
import Derived.Test.YtdmnkmdlochogaaTwo
import Derived.Test.YtdmnkmdlochogaaHeight
import Derived.Test.YtdmnkmdlochogaaMid
namespace Go.Proofs.Ytdmnkmdlochogaa
open Go.RowKit

def cmK (la lb : List (Int × Int)) (k : Nat) : List Int := ((la.take k).filter fun p => thereB lb p.1).map (·.1)
theorem cmK_yes {la lb : List (Int × Int)} {k : Nat} {x y : Int} (h : la[k]? = some (x, y)) (ht : thereB lb x = true) : cmK la lb (k + 1) = cmK la lb k ++ [x] := by
  obtain ⟨hk, he⟩ := List.getElem?_eq_some_iff.1 h
  unfold cmK
  rw [List.take_succ_eq_append_getElem hk, he, List.filter_append, List.map_append]
  simp [ht]
theorem cmK_no {la lb : List (Int × Int)} {k : Nat} {x y : Int} (h : la[k]? = some (x, y)) (ht : thereB lb x = false) : cmK la lb (k + 1) = cmK la lb k := by
  obtain ⟨hk, he⟩ := List.getElem?_eq_some_iff.1 h
  unfold cmK
  rw [List.take_succ_eq_append_getElem hk, he, List.filter_append, List.map_append]
  simp [ht]
theorem cmK_len (la lb : List (Int × Int)) (k : Nat) : (cmK la lb k).length ≤ k := by
  unfold cmK
  have h1 := List.length_filter_le (fun p : Int × Int => thereB lb p.1) (la.take k)
  have h2 := List.length_take_le k la
  rw [List.length_map]
  omega
def cmL (la lb : List (Int × Int)) : List Int := cmK la lb la.length
def iv (xs : List Int) : List Value := xs.map (Value.int .i64)
theorem iv_snoc (xs : List Int) (x : Int) : iv (xs ++ [x]) = iv xs ++ [.int .i64 x] := by simp [iv]
def IntsRow (xs : List Int) (w : World) (v : Value) (w' : World) : Prop := ∃ A c, v = .slice A xs.length c ∧ IFun w' w.heap.size w'.heap.size A xs.length (fun j => xs.getD j 0) ∧ Below w.heap.size w w'
theorem ints_of_acc {w w0 w' : World} {cs : List Value} {v : Value} {n : Nat} {xs : List Int} (h : Acc w0 3 1 cs v n (iv xs) w') (hn : xs.length = n) (hb : Below w.heap.size w w0) : IntsRow xs w v w' := by
  obtain ⟨A, c, rfl⟩ := own_slice h.1
  subst hn
  have h1 := ifun_of_own h.1
  exact ⟨A, c, rfl, h1.wide (by have := hb.size; omega) (Nat.le_refl _), bthen hb h.2.1 hb.size⟩
def CmnPost (la lb : List (Int × Int)) (w : World) (e : Ending) (w' : World) : Prop := ∃ v, e = .returned v ∧ IntsRow (cmL la lb) w v w'
set_option maxRecDepth 20000 in
set_option maxHeartbeats 3200000 in
theorem common_spec (id ze : Int) (nm : ByteArray) (A : Option Addr) (c : Nat) (la : List (Int × Int)) (id2 ze2 : Int) (nm2 : ByteArray) (A2 : Option Addr) (c2 : Nat) (lb : List (Int × Int)) (w : World) (hsa : Spots w w.heap.size A la.length la) (hsb : Spots w w.heap.size A2 lb.length lb) (h15 : la.length ≤ 15) (h15b : lb.length ≤ 15) :
    Calls Try.prog 97 #[.agg #[.int .i64 id, .string nm, .int .i64 ze, .slice A la.length c], .agg #[.int .i64 id2, .string nm2, .int .i64 ze2, .slice A2 lb.length c2]] w (CmnPost la lb w) := by
  obtain ⟨i0, hi, hz0, hz1, hz2⟩ := info_parts info3
  have HI := Lib.hid (And.intro hi (And.intro hz0 (And.intro hz1 hz2)))
  clear hi hz0 hz1 hz2
  have HSA := Lib.hid hsa
  have HSB := Lib.hid hsb
  clear hsa hsb
  obtain ⟨U, hU⟩ : ∃ U, U = w.alloc (.cells #[.int .i64 id, .string nm, .int .i64 ze, .slice A la.length c] 26) := ⟨_, rfl⟩
  obtain ⟨V, hV⟩ : ∃ V, V = U.alloc (.cells #[.int .i64 id2, .string nm2, .int .i64 ze2, .slice A2 lb.length c2] 26) := ⟨_, rfl⟩
  have HU : Hid (Below w.heap.size w U ∧ Has U w.heap.size [.int .i64 id, .string nm, .int .i64 ze, .slice A la.length c] ∧ U.heap.size = w.heap.size + 1) := by rw [hU]; exact ⟨(box1 (Below.refl _ _)).1, (box1 (Below.refl _ _)).2, World.size_alloc _ _⟩
  have HV : Hid (Below U.heap.size U V ∧ Has V U.heap.size [.int .i64 id2, .string nm2, .int .i64 ze2, .slice A2 lb.length c2] ∧ V.heap.size = w.heap.size + 1 + 1) := by rw [hV]; exact ⟨(box1 (Below.refl _ _)).1, (box1 (Below.refl _ _)).2, by rw [World.size_alloc, HU.out.2.2]⟩
  have HVU : Hid (V = (w.alloc (.cells #[.int .i64 id, .string nm, .int .i64 ze, .slice A la.length c] 26)).alloc (.cells #[.int .i64 id2, .string nm2, .int .i64 ze2, .slice A2 lb.length c2] 26)) := by rw [hV, hU]; rfl
  have hsz : U.heap.size = w.heap.size + 1 := HU.out.2.2
  have HA0 : Hid (Acc U 3 1 [.int .i64 id2, .string nm2, .int .i64 ze2, .slice A2 lb.length c2] (.slice (some ⟨w.heap.size + 1 + 1, 0, none⟩) 0 0) 0 (iv []) (V.alloc (.cells #[] 3))) := by
    have h := acc_start 3 1 HV.out.1 HV.out.2.1
    rw [HV.out.2.2] at h
    exact h
  clear hU hV
  go_enter Try.func97, Try.ntmps97
  go_wp2_with fail
  rw [← HVU.out]
  go_loopw [5, 6] (fun s i wr => ∃ (k : Nat) (v : Value), k ≤ la.length ∧ i = .int .i64 k ∧ s = v ∧ Hid (Acc U 3 1 [.int .i64 id2, .string nm2, .int .i64 ze2, .slice A2 lb.length c2] v (cmK la lb k).length (iv (cmK la lb k)) wr)) (fun _ i _ => la.length - (intOf i).toNat)
  case atStart => exact ⟨0, _, Nat.zero_le _, rfl, rfl, HA0⟩
  case round =>
    obtain ⟨k, v, hk, rfl, rfl, hR⟩ := hrel
    have hbw := bthen HU.out.1 hR.out.2.1 HU.out.1.size
    have HBW := Lib.hid hbw
    have HGA := Lib.hid (HU.out.2.1.on hR.out.2.1 (by omega))
    clear hbw
    have a3 := HGA.out.at_ 3 _ rfl
    by_cases hlt : k < la.length
    · obtain ⟨b0, o0, x, y, rfl, hb0, hl0, c0, c1⟩ := (spots_at HSA.out HBW.out).2 k hlt
      have HK := Lib.hid hl0
      have hlen := cmK_len la lb k
      clear hl0
      obtain ⟨W0, rfl⟩ : ∃ W : World, W = wr := ⟨_, rfl⟩
      have d0 := hR.out.2.2.at_ 0 _ rfl
      have d1 := hR.out.2.2.at_ 1 _ rfl
      have d2 := hR.out.2.2.at_ 2 _ rfl
      have d3 := hR.out.2.2.at_ 3 _ rfl
      rw [hsz] at d0 d1 d2 d3
      have HSBw := Lib.hid (spots_at HSB.out HBW.out)
      go_wp2_with fail
      rcases ht : thereB lb x with _ | _
      · have HT := Lib.hid (atI_no ht)
        have HV2 := Lib.hid (cmK_no HK.out ht)
        clear ht
        have lc0 := lcell (a3)
        have lc1 := lcell (c0)
        have lc2 := lcell (c1)
        have lc3 := lcell (d0)
        have lc4 := lcell (d1)
        have lc5 := lcell (d2)
        have lc6 := lcell (d3)
        refine region_later (W := W0) (by kernel_rfl) (by kernel_rfl) (Below.refl _ _) ?_
        repeat (go_big_quiet_step (((go_at_call 159; exact later_call (at_v _ _ _ _ _ _ lb _ _ HT.out _ (spots_more HSBw.out (Later.below _)) (by unfold maxLen; omega))))))
        refine wpQuiet_nil ?_
        intro W1 hW1
        have HL : Hid (Below W0.heap.size W0 W1) := by obtain ⟨x, rfl⟩ := hW1; exact Lib.hid x.below
        clear hW1 lc0 lc1 lc2 lc3 lc4 lc5 lc6
        have hn3 := hR.out.next HL.out
        rw [← HV2.out] at hn3
        have HN3 := Lib.hid hn3
        clear hn3 c0 c1 d0 d1 d2 d3 a3
        go_wp2_with fail
        go_roundw
        case rel => exact ⟨k + 1, _, by omega, by go_num, rfl, HN3⟩
        case measure => simp [intOf]; omega
      · have HT := Lib.hid (atI_yes ht)
        have HV2 := Lib.hid (cmK_yes HK.out ht)
        clear ht
        have lc0 := lcell (a3)
        have lc1 := lcell (c0)
        have lc2 := lcell (c1)
        have lc3 := lcell (d0)
        have lc4 := lcell (d1)
        have lc5 := lcell (d2)
        have lc6 := lcell (d3)
        refine region_later (W := W0) (by kernel_rfl) (by kernel_rfl) (Below.refl _ _) ?_
        repeat (go_big_quiet_step (((go_at_call 159; exact later_call (at_v _ _ _ _ _ _ lb _ _ HT.out _ (spots_more HSBw.out (Later.below _)) (by unfold maxLen; omega))))))
        refine wpQuiet_nil ?_
        intro W1 hW1
        have HL : Hid (Below W0.heap.size W0 W1) := by obtain ⟨x, rfl⟩ := hW1; exact Lib.hid x.below
        clear hW1 lc0 lc1 lc2 lc3 lc4 lc5 lc6
        have HR3 := Lib.hid (hR.out.next HL.out)
        have a3' := cell_next HL.out a3
        have c0' := cell_next HL.out c0
        clear c0 c1 d0 d1 d2 d3 a3
        go_wp2_with (at_builtin; go_loud (refine wpList_append_own _ rfl _ _ 39 rfl (U.heap.size + 1) 3 i0 (.int .i64 0) 1 8 Try.underlying39 HI.out.1 HI.out.2.1 HI.out.2.2.1 HI.out.2.2.2 rfl (by decide) _ _ _ rfl (HR3.out.1.alloc _) ⟨W1.heap.size, 0, none⟩ 1 1 [.int .i64 x] rfl rfl (cell_one_new _ _ _) (by simp [Value.oneCell']) (by unfold maxLen; omega) (by omega) (by have := HR3.out.2.1.size; have := HR3.out.2.2.1; simp; omega) ?_; intro v' w5 hown' hgrow _; have HN := Lib.hid (HR3.out.step hown' hgrow); clear hown' hgrow))
        have hn3 := HN.out
        rw [← iv_snoc, ← HV2.out] at hn3
        have hl3 : (cmK la lb k).length + 1 = (cmK la lb (k + 1)).length := by rw [HV2.out]; simp
        rw [hl3] at hn3
        have HN3 := Lib.hid hn3
        clear hn3 hl3 a3' c0'
        go_roundw
        case rel => exact ⟨k + 1, _, by omega, by go_num, rfl, HN3⟩
        case measure => simp [intOf]; omega
    · obtain rfl : k = la.length := by omega
      have HF := Lib.hid (ints_of_acc (xs := cmL la lb) hR.out rfl HU.out.1)
      go_wp2_with fail
      go_ret
      exact ⟨_, rfl, HF.out⟩

theorem two_good {L : List GG} {a : Int} (hL : areB L = true) (hp : 0 ≤ plI L a) : gaugeB (gAt L a).id (gAt L a).nm (gAt L a).ze (gAt L a).l = true := by
  obtain ⟨k, hk, hkl, _⟩ := pl_at hp
  have e : gAt L a = gOf L k := by unfold gAt; rw [hk, Int.toNat_natCast]
  rw [e]
  unfold areB okG at hL
  rw [Bool.and_eq_true] at hL
  have h1 := List.all_eq_true.1 hL.2 k (by simpa using hkl)
  unfold stepG gB at h1
  simp only [Bool.and_eq_true] at h1
  exact h1.1.1
theorem twoK_parts {L : List GG} {a b : Int} (h : twoK L a b = true) : areB L = true ∧ 0 ≤ plI L a ∧ 0 ≤ plI L b ∧ a ≠ b := by
  unfold twoK at h
  simp only [Bool.and_eq_true, decide_eq_true_eq] at h
  exact ⟨h.1.1.1, h.1.1.2, h.1.2, h.2⟩
def comR (L : List GG) (a b : Int) : List Int := if twoK L a b then cmL (gAt L a).l (gAt L b).l else []
theorem comR_len (L : List GG) (a b : Int) : (comR L a b).length ≤ 15 := by
  unfold comR
  split
  · rename_i h
    have hp := twoK_parts h
    have h1 := (good_of_gauge (two_good hp.1 hp.2.1)).2.2.2.1
    have h2 := cmK_len (gAt L a).l (gAt L b).l (gAt L a).l.length
    unfold cmL
    omega
  · simp
def ComPost (L : List GG) (a b : Int) (w : World) (e : Ending) (w' : World) : Prop :=
  ∃ A c, e = .returned (.tuple #[.slice A (comR L a b).length c, .bool (twoK L a b)]) ∧ IFun w' w.heap.size w'.heap.size A (comR L a b).length (fun j => (comR L a b).getD j 0) ∧ Below w.heap.size w w'
theorem com_of_row {L : List GG} {a b : Int} {w w' : World} {v : Value} {K : Bool} {xs : List Int} (hK : twoK L a b = K) (hx : comR L a b = xs) (h : IntsRow xs w v w') : ComPost L a b w (.returned (.tuple #[v, .bool K])) w' := by
  subst hK hx
  obtain ⟨A, c, rfl, hI, hb⟩ := h
  exact ⟨A, c, rfl, hI, hb⟩
theorem com_no {L : List GG} {a b : Int} (h : twoK L a b = false) : comR L a b = [] := by unfold comR; rw [h]; rfl
theorem com_yes {L : List GG} {a b : Int} (h : twoK L a b = true) : comR L a b = cmL (gAt L a).l (gAt L b).l := by unfold comR; rw [h]; rfl
theorem row_nil {w w1 : World} (hb : Below w.heap.size w w1) : IntsRow [] w (.slice (some ⟨w1.heap.size, 0, none⟩) 0 0) (w1.alloc (.cells #[] 3)) :=
  ⟨_, _, rfl, fun k hk => absurd hk (by simp), hb.alloc hb.size _⟩
set_option maxRecDepth 100000 in
set_option maxHeartbeats 3200000 in
theorem com_impl (A : Option Addr) (n c : Nat) (L : List GG) (a b : Int) (w : World) (hs : Gauges w w.heap.size A n L) (hm : n ≤ maxLen) (hcap : n ≤ c) :
    Calls Try.prog 25 #[.slice A n c, .int .i64 a, .int .i64 b] w (ComPost L a b w) := by
  obtain ⟨i0, hi, hz0, hz1, hz2⟩ := info_parts info3
  have HI := Lib.hid (And.intro hi (And.intro hz0 (And.intro hz1 hz2)))
  clear hi hz0 hz1 hz2
  have HC := Lib.hid (two_impl A n c L a b w hs hm hcap)
  clear hs
  go_enter Try.func25, Try.ntmps25
  go_wp2_with fail
  refine HC.out.mono ?_
  rintro e w1 (⟨hk, rfl, hb⟩ | ⟨hk, A1, c1, A2, c2, rfl, hsa, hsb, hb⟩)
  · have HK := Lib.hid hk
    have HF := Lib.hid (com_of_row HK.out (com_no HK.out) (row_nil (bthen hb (box1 (cs := #[.int .i64 0, .string ⟨#[]⟩, .int .i64 0, .slice none 0 0, .int .i64 0, .string ⟨#[]⟩, .int .i64 0, .slice none 0 0]) (T := 106) (Below.refl _ _)).1 hb.size)))
    have hF := HF.out
    rw [World.size_alloc] at hF
    have HF2 := Lib.hid hF
    clear hk hb hF
    go_wp2_with fail
    go_ret2
    exact HF2.out
  · have HK := Lib.hid hk
    have hp := twoK_parts hk
    have HGA := Lib.hid (good_of_gauge (two_good hp.1 hp.2.1))
    have HGB := Lib.hid (good_of_gauge (two_good hp.1 hp.2.2.1))
    have h15 := HGA.out.2.2.2.1
    have h15b := HGB.out.2.2.2.1
    have HSA := Lib.hid hsa
    have HSB := Lib.hid hsb
    have HB1 := Lib.hid hb
    obtain ⟨la, hla⟩ : ∃ l, l = (gAt L a).l := ⟨_, rfl⟩
    obtain ⟨lb, hlb⟩ : ∃ l, l = (gAt L b).l := ⟨_, rfl⟩
    rw [← hla] at HSA HGA h15
    rw [← hlb] at HSB HGB h15b
    have HCY : Hid (comR L a b = cmL la lb) := by rw [hla, hlb]; exact com_yes hk
    clear hk hp hsa hsb hb
    obtain ⟨X, hX⟩ : ∃ X, X = w1.alloc (.cells #[.int .i64 (gAt L a).id, .string (gAt L a).nm, .int .i64 (gAt L a).ze, .slice A1 (gAt L a).l.length c1, .int .i64 (gAt L b).id, .string (gAt L b).nm, .int .i64 (gAt L b).ze, .slice A2 (gAt L b).l.length c2] 106) := ⟨_, rfl⟩
    have HX : Hid (Below w1.heap.size w1 X ∧ Has X w1.heap.size [.int .i64 (gAt L a).id, .string (gAt L a).nm, .int .i64 (gAt L a).ze, .slice A1 (gAt L a).l.length c1, .int .i64 (gAt L b).id, .string (gAt L b).nm, .int .i64 (gAt L b).ze, .slice A2 (gAt L b).l.length c2] ∧ X.heap.size = w1.heap.size + 1) := by rw [hX]; exact ⟨(box1 (Below.refl _ _)).1, (box1 (Below.refl _ _)).2, World.size_alloc _ _⟩
    have HA0 : Hid (Acc w1 3 1 [.int .i64 (gAt L a).id, .string (gAt L a).nm, .int .i64 (gAt L a).ze, .slice A1 (gAt L a).l.length c1, .int .i64 (gAt L b).id, .string (gAt L b).nm, .int .i64 (gAt L b).ze, .slice A2 (gAt L b).l.length c2] (.slice (some ⟨w1.heap.size + 1, 0, none⟩) 0 0) 0 (iv []) (X.alloc (.cells #[] 3))) := by
      have h := acc_start 3 1 HX.out.1 HX.out.2.1
      rw [HX.out.2.2] at h
      exact h
    have hX' := hX
    rw [← hla, ← hlb] at hX'
    have HEX := Lib.hid hX'
    clear hX'
    have m3 := (HX.out.2.1.alloc (.cells #[] 3)).at_ 3 _ rfl
    rw [hX] at m3
    rw [← hla, ← hlb] at HA0 m3
    rw [← hla, ← hlb]
    clear hX hla hlb
    go_wp2_with fail
    rw [← HEX.out]
    clear m3
    go_loopw [10, 30] (fun s i wr => ∃ (k : Nat) (v : Value), k ≤ la.length ∧ i = .int .i64 k ∧ s = v ∧ Hid (Acc w1 3 1 [.int .i64 (gAt L a).id, .string (gAt L a).nm, .int .i64 (gAt L a).ze, .slice A1 la.length c1, .int .i64 (gAt L b).id, .string (gAt L b).nm, .int .i64 (gAt L b).ze, .slice A2 lb.length c2] v (cmK la lb k).length (iv (cmK la lb k)) wr)) (fun _ i _ => la.length - (intOf i).toNat)
    case atStart => exact ⟨0, _, Nat.zero_le _, rfl, rfl, HA0⟩
    case round =>
      obtain ⟨k, v, hk, rfl, rfl, hR⟩ := hrel
      by_cases hlt : k < la.length
      · obtain ⟨b0, o0, x, y, rfl, hb0, hl0, c0, c1'⟩ := (spots_more HSA.out hR.out.2.1).2 k hlt
        have HK2 := Lib.hid hl0
        have hlen := cmK_len la lb k
        clear hl0
        have HW0 := Lib.hid (hR.out.next ((Below.refl _ _).alloc (Nat.le_refl _) (.cells #[.int .i64 x, .int .i64 y] 34)))
        have HBr := Lib.hid (box1 (cs := #[.int .i64 x, .int .i64 y]) (T := 34) (Below.refl _ _) (w := wr))
        have m7 := HW0.out.2.2.at_ 7 _ rfl
        go_wp2_with fail
        refine (placeOf_any _ _ _ lb _ _ (spots_more HSB.out HW0.out.2.1) (by omega) (asc_of_good HGB.out.2.2.2.2)).mono ?_
        rintro e w6 ⟨q, hq, rfl, hb⟩
        have HQ := Lib.hid (lb_there (asc_of_good HGB.out.2.2.2.2) hq)
        have HR3 := Lib.hid (HW0.out.next hb)
        have HX3 := Lib.hid (HBr.out.2.next hb)
        clear hq hb m7 c0 c1'
        rcases hh : hitB lb x q with _ | _
        · have HV2 := Lib.hid (cmK_no HK2.out (HQ.out.trans hh))
          clear hh
          have hn3 := HR3.out
          rw [← HV2.out] at hn3
          have HN3 := Lib.hid hn3
          clear hn3
          go_wp2_with fail
          go_roundw
          case rel => exact ⟨k + 1, _, by omega, by go_num, rfl, HN3⟩
          case measure => simp [intOf]; omega
        · have HV2 := Lib.hid (cmK_yes HK2.out (HQ.out.trans hh))
          clear hh
          have x0 := HX3.out.at_ 0 _ rfl
          go_wp2_with (at_builtin; go_loud (refine wpList_append_own _ rfl _ _ 39 rfl (w1.heap.size + 1) 3 i0 (.int .i64 0) 1 8 Try.underlying39 HI.out.1 HI.out.2.1 HI.out.2.2.1 HI.out.2.2.2 rfl (by decide) _ _ _ rfl (HR3.out.1.alloc _) ⟨w6.heap.size, 0, none⟩ 1 1 [.int .i64 x] rfl rfl (cell_one_new _ _ _) (by simp [Value.oneCell']) (by unfold maxLen; omega) (by omega) (by have := HR3.out.2.1.size; have := HR3.out.2.2.1; simp; omega) ?_; intro v' w5 hown' hgrow _; have HN := Lib.hid (HR3.out.step hown' hgrow); clear hown' hgrow))
          have hn3 := HN.out
          rw [← iv_snoc, ← HV2.out] at hn3
          have hl3 : (cmK la lb k).length + 1 = (cmK la lb (k + 1)).length := by rw [HV2.out]; simp
          rw [hl3] at hn3
          have HN3 := Lib.hid hn3
          clear hn3 hl3 x0
          go_roundw
          case rel => exact ⟨k + 1, _, by omega, by go_num, rfl, HN3⟩
          case measure => simp [intOf]; omega
      · obtain rfl : k = la.length := by omega
        have HF := Lib.hid (com_of_row HK.out HCY.out (ints_of_acc (xs := cmL la lb) hR.out rfl HB1.out))
        go_wp2_with fail
        go_ret2
        exact HF.out
theorem pl_same {L : List GG} {a b : Int} (ha : 0 ≤ plI L a) (h : plI L a = plI L b) : a = b := by
  obtain ⟨k, hk, _, hid⟩ := pl_at ha
  obtain ⟨k2, hk2, _, hid2⟩ := pl_at (show 0 ≤ plI L b by omega)
  obtain rfl : k = k2 := by omega
  rw [← hid, hid2]
set_option maxRecDepth 100000 in
set_option maxHeartbeats 3200000 in
theorem com_spec (A : Option Addr) (n c : Nat) (L : List GG) (a b : Int) (w : World) (hs : Gauges w w.heap.size A n L) (hm : n ≤ maxLen) :
    Calls Try.prog 26 #[.slice A n c, .int .i64 a, .int .i64 b] w (ComPost L a b w) := by
  obtain rfl := hs.1
  have HS := Lib.hid hs
  clear hs
  rcases hg : areB L with _ | _
  · have HG := Lib.hid hg
    have HR : Hid (twoK L a b = false) := by unfold Hid twoK; rw [hg]; rfl
    clear hg
    go_enter Try.func26, Try.ntmps26
    go_wp2_with fail
    refine (find_spec _ _ _ L _ _ HS.out hm).mono ?_
    rintro e w' ⟨rfl, rfl⟩
    go_wp2_with fail
    refine (find_spec _ _ _ L _ _ HS.out hm).mono ?_
    rintro e w' ⟨rfl, rfl⟩
    go_wp2_with fail
    refine (good_v _ _ _ L _ HG.out _ HS.out hm).mono ?_
    rintro e w1 ⟨rfl, hb⟩
    have HB1 := Lib.hid hb
    have HF := Lib.hid (com_of_row HR.out (com_no HR.out) (row_nil hb))
    clear hb
    go_wp2_with fail
    go_ret2
    exact HF.out
  have HG := Lib.hid hg
  by_cases hpa : plI L a < 0
  · skip
    have HR : Hid (twoK L a b = false) := by unfold Hid twoK; rw [decide_eq_false (p := 0 ≤ plI L a) (by omega)]; simp
    clear hg
    go_enter Try.func26, Try.ntmps26
    go_wp2_with fail
    refine (find_spec _ _ _ L _ _ HS.out hm).mono ?_
    rintro e w' ⟨rfl, rfl⟩
    go_wp2_with fail
    refine (find_spec _ _ _ L _ _ HS.out hm).mono ?_
    rintro e w' ⟨rfl, rfl⟩
    go_wp2_with fail
    refine (good_v _ _ _ L _ HG.out _ HS.out hm).mono ?_
    rintro e w1 ⟨rfl, hb⟩
    have HB1 := Lib.hid hb
    have HF := Lib.hid (com_of_row HR.out (com_no HR.out) (row_nil hb))
    clear hb
    go_wp2_with fail
    go_ret2
    exact HF.out
  by_cases hpb : plI L b < 0
  · skip
    have HR : Hid (twoK L a b = false) := by unfold Hid twoK; rw [decide_eq_false (p := 0 ≤ plI L b) (by omega)]; simp
    clear hg
    go_enter Try.func26, Try.ntmps26
    go_wp2_with fail
    refine (find_spec _ _ _ L _ _ HS.out hm).mono ?_
    rintro e w' ⟨rfl, rfl⟩
    go_wp2_with fail
    refine (find_spec _ _ _ L _ _ HS.out hm).mono ?_
    rintro e w' ⟨rfl, rfl⟩
    go_wp2_with fail
    refine (good_v _ _ _ L _ HG.out _ HS.out hm).mono ?_
    rintro e w1 ⟨rfl, hb⟩
    have HB1 := Lib.hid hb
    have HF := Lib.hid (com_of_row HR.out (com_no HR.out) (row_nil hb))
    clear hb
    go_wp2_with fail
    go_ret2
    exact HF.out
  by_cases hab : plI L a = plI L b
  · have hab' := pl_same (by omega) hab
    have heq : (plI L a == plI L b) = true := by simpa using hab
    have HR : Hid (twoK L a b = false) := by unfold Hid twoK; rw [show decide (a ≠ b) = false from decide_eq_false (fun h => h hab'), Bool.and_false]
    clear hg hab hab'
    go_enter Try.func26, Try.ntmps26
    go_wp2_with fail
    refine (find_spec _ _ _ L _ _ HS.out hm).mono ?_
    rintro e w' ⟨rfl, rfl⟩
    go_wp2_with fail
    refine (find_spec _ _ _ L _ _ HS.out hm).mono ?_
    rintro e w' ⟨rfl, rfl⟩
    go_wp2_with fail
    refine (good_v _ _ _ L _ HG.out _ HS.out hm).mono ?_
    rintro e w1 ⟨rfl, hb⟩
    have HB1 := Lib.hid hb
    have HF := Lib.hid (com_of_row HR.out (com_no HR.out) (row_nil hb))
    clear hb
    go_wp2_with fail
    go_ret2
    exact HF.out
  have hne : a ≠ b := fun e => hab (by rw [e])
  have heq : (plI L a == plI L b) = false := beq_eq_false_iff_ne.2 hab
  have HK : Hid (twoK L a b = true) := by unfold Hid twoK; rw [hg, decide_eq_true (p := 0 ≤ plI L a) (by omega), decide_eq_true (p := 0 ≤ plI L b) (by omega), show decide (a ≠ b) = true from decide_eq_true hne]; rfl
  have HCY := Lib.hid (com_yes HK.out)
  have HGA := Lib.hid (good_of_gauge (two_good hg (show 0 ≤ plI L a by omega)))
  have HGB := Lib.hid (good_of_gauge (two_good hg (show 0 ≤ plI L b by omega)))
  have h15 := HGA.out.2.2.2.1
  have h15b := HGB.out.2.2.2.1
  clear hg hab hne
  go_enter Try.func26, Try.ntmps26
  go_wp2_with fail
  refine (find_spec _ _ _ L _ _ HS.out hm).mono ?_
  rintro e w' ⟨rfl, rfl⟩
  go_wp2_with fail
  refine (find_spec _ _ _ L _ _ HS.out hm).mono ?_
  rintro e w' ⟨rfl, rfl⟩
  go_wp2_with fail
  refine (good_v _ _ _ L _ HG.out _ HS.out hm).mono ?_
  rintro e w1 ⟨rfl, hb⟩
  have HB1 := Lib.hid hb
  have HS1 := Lib.hid (gauges_at HS.out hb)
  clear hb
  obtain ⟨ba, oa, ka, Aa, ca, hka, hkl, hAa, hba, g0, g1, g2, g3, hsa, _, _⟩ := gauge_of_list HS1.out (show 0 ≤ plI L a by omega)
  obtain ⟨bb, ob, kb, Ab, cb, hkb, hklb, hAb, hbb, p0, p1, p2, p3, hsb, _, _⟩ := gauge_of_list HS1.out (show 0 ≤ plI L b by omega)
  subst hAa
  obtain ⟨rfl, rfl⟩ : ba = bb ∧ oa = ob := by injection hAb with h; injection h with h h'; exact ⟨h, h'⟩
  have HSA := Lib.hid hsa
  have HSB := Lib.hid hsb
  have hq : (ka : Int) ≠ kb := fun e => by rw [hka, hkb, e] at heq; simp at heq
  have hq1 : ((ka : Int) == (kb : Int)) = false := beq_eq_false_iff_ne.2 hq
  have hq2 : decide ((ka : Int) < 0) = false := decide_eq_false (by omega)
  have hq3 : decide ((kb : Int) < 0) = false := decide_eq_false (by omega)
  clear hAb hsa hsb hq heq hpa hpb
  rw [hka, hkb]
  clear hka hkb
  go_wp2_with fail
  have lc0 := lcell (g0)
  have lc1 := lcell (g1)
  have lc2 := lcell (g2)
  have lc3 := lcell (g3)
  have lc4 := lcell (p0)
  have lc5 := lcell (p1)
  have lc6 := lcell (p2)
  have lc7 := lcell (p3)
  refine region_mid (W := w1) 8 (by kernel_rfl) (by kernel_rfl) (Below.refl _ _) (fun d _ _ _ _ h => by cases d <;> exact h) ?_
  simp only [List.take_succ_cons, List.take_zero, List.drop_succ_cons, List.drop_zero]
  repeat (go_big_quiet_step (fail))
  refine wpQuiet_nil ?_
  intro W3 hW1
  have HL : Hid (Below w1.heap.size w1 W3) := by obtain ⟨x, rfl⟩ := hW1; exact Lib.hid x.below
  clear hW1 lc0 lc1 lc2 lc3 lc4 lc5 lc6 lc7
  refine wpOp_step rfl (fun K hK => ?_)
  rw [if_pos (by rfl)]
  go_simp
  refine (common_spec _ _ _ _ _ (gAt L a).l _ _ _ _ _ (gAt L b).l _ (spots_more HSA.out HL.out) (spots_more HSB.out HL.out) h15 h15b).mono ?_
  rintro e w5 ⟨v, rfl, hrow⟩
  have HROW := Lib.hid hrow
  have HB5 : Hid (Below W3.heap.size W3 w5) := by obtain ⟨_, _, _, _, h⟩ := hrow; exact h
  clear hrow
  refine hK _ _ ⟨⟨⟨_, bthen HL.out HB5.out HL.out.size⟩, rfl⟩, ?_⟩
  clear hK K g0 g1 g2 g3 p0 p1 p2 p3
  have HF : Hid (ComPost L a b w (.returned (.tuple #[v, .bool true])) w5) := by
    obtain ⟨A5, c5, hv, hI, hb5⟩ := HROW.out
    have hle : w.heap.size ≤ W3.heap.size := Nat.le_trans HB1.out.size HL.out.size
    exact Lib.hid (com_of_row HK.out HCY.out ⟨A5, c5, hv, hI.wide hle (Nat.le_refl _), bthen HB1.out (bthen HL.out hb5 HL.out.size) HB1.out.size⟩)
  go_wp2_with fail
  go_ret2
  exact HF.out
end Go.Proofs.Ytdmnkmdlochogaa
