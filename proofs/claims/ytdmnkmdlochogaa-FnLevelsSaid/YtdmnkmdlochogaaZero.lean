/-
  Contracts of spec.l2Reduce, impl.lowestTerms, impl.ZeroError, spec.ZeroError over this translation. Conditions: stated at each theorem.
-/
import Derived.Test.YtdmnkmdlochogaaCommon
import Derived.Test.YtdmnkmdlochogaaRange
import Derived.Test.YtdmnkmdlochogaaRed
namespace Go.Proofs.Ytdmnkmdlochogaa
open Go.RowKit

/-! ### ZeroError -/
def hv (g : GG) (t : Int) : Int := htV g.id g.ze g.nm g.l t
theorem hv_bd (g : GG) (t : Int) : -1500 ≤ hv g t ∧ hv g t ≤ 3000 := by
  unfold hv htV
  split
  · rename_i h
    unfold htK at h
    rw [Bool.and_eq_true] at h
    have h1 := good_of_gauge h.1
    have h2 := (read_at h1.2.2.2.2 (at_lt h.2)).2
    have h3 := inB_yes h1.2.2.1
    omega
  · omega
def sumK (ga gb : GG) (ts : List Int) (k : Nat) : Int := ((ts.take k).map fun t => hv gb t - hv ga t).sum
theorem sumK_step (ga gb : GG) {ts : List Int} {k : Nat} (h : k < ts.length) : sumK ga gb ts (k + 1) = sumK ga gb ts k + (hv gb (ts.getD k 0) - hv ga (ts.getD k 0)) := by
  unfold sumK
  rw [List.take_succ_eq_append_getElem h, List.map_append, List.sum_append]
  simp [List.getD, h]
theorem sumK_bd (ga gb : GG) (ts : List Int) : ∀ k, k ≤ ts.length → -(4500 * (k : Int)) ≤ sumK ga gb ts k ∧ sumK ga gb ts k ≤ 4500 * (k : Int) := by
  intro k
  induction k with
  | zero => intro _; simp [sumK]
  | succ k ih =>
    intro h
    rw [sumK_step ga gb (by omega)]
    have h1 := ih (by omega)
    have h2 := hv_bd gb (ts.getD k 0)
    have h3 := hv_bd ga (ts.getD k 0)
    omega
def zeK (L : List GG) (a b : Int) : Bool := twoK L a b && decide (0 < (comR L a b).length)
def zeS (L : List GG) (a b : Int) : Int := sumK (gAt L a) (gAt L b) (comR L a b) (comR L a b).length
def zeN (L : List GG) (a b : Int) : Int := if zeK L a b then (zeS L a b).tdiv (gd (zeS L a b) (comR L a b).length : Nat) else 0
def zeD (L : List GG) (a b : Int) : Int := if zeK L a b then ((comR L a b).length : Int) / (gd (zeS L a b) (comR L a b).length : Nat) else 0
def ZePost (L : List GG) (a b : Int) (w : World) (e : Ending) (w' : World) : Prop :=
  e = .returned (.tuple #[.int .i64 (zeN L a b), .int .i64 (zeD L a b), .bool (zeK L a b)]) ∧ Below w.heap.size w w'
theorem ze_no {L : List GG} {a b : Int} {w w' : World} (h : zeK L a b = false) (hb : Below w.heap.size w w') : ZePost L a b w (.returned (.tuple #[.int .i64 0, .int .i64 0, .bool false])) w' :=
  ⟨by unfold zeN zeD; rw [h]; rfl, hb⟩
theorem ze_yes {L : List GG} {a b : Int} {w w' : World} (h : zeK L a b = true) (hb : Below w.heap.size w w') : ZePost L a b w (.returned (.tuple #[.int .i64 ((zeS L a b).tdiv (gd (zeS L a b) (comR L a b).length : Nat)), .int .i64 (((comR L a b).length : Int) / (gd (zeS L a b) (comR L a b).length : Nat)), .bool true])) w' :=
  ⟨by unfold zeN zeD; rw [h]; rfl, hb⟩
theorem htI_v (g : GG) (A : Option Addr) (c : Nat) (t : Int) (w : World) (hs : Spots w w.heap.size A g.l.length g.l) (hm : g.l.length ≤ maxLen) (hn : g.nm.size ≤ maxLen) :
    Calls Try.prog 90 #[.agg #[.int .i64 g.id, .string g.nm, .int .i64 g.ze, .slice A g.l.length c], .int .i64 t] w fun e w' => e = .returned (.tuple #[.int .i64 (hv g t), .bool (htK g.id g.ze g.nm g.l t)]) ∧ Below w.heap.size w w' :=
  (height_impl g.id g.ze g.nm A _ c g.l t w hs hm hn).mono fun _ _ h => h
theorem htS_v (g : GG) (A : Option Addr) (c : Nat) (t : Int) (w : World) (hs : Spots w w.heap.size A g.l.length g.l) (hm : g.l.length ≤ maxLen) (hn : g.nm.size ≤ maxLen) :
    Calls Try.prog 92 #[.agg #[.int .i64 g.id, .string g.nm, .int .i64 g.ze, .slice A g.l.length c], .int .i64 t] w fun e w' => e = .returned (.tuple #[.int .i64 (hv g t), .bool (htK g.id g.ze g.nm g.l t)]) ∧ Below w.heap.size w w' :=
  (height_spec g.id g.ze g.nm A _ c g.l t w hs hm hn).mono fun _ _ h => h
theorem word_len {s : ByteArray} (h : wordB s = true) : s.size ≤ 10 := by
  unfold wordB at h
  rw [Bool.and_eq_true] at h
  have := inB_yes h.1
  omega
set_option maxRecDepth 100000 in
set_option maxHeartbeats 3200000 in
theorem zero_impl (A : Option Addr) (n c : Nat) (L : List GG) (a b : Int) (w : World) (hs : Gauges w w.heap.size A n L) (hm : n ≤ maxLen) (hcap : n ≤ c) :
    Calls Try.prog 23 #[.slice A n c, .int .i64 a, .int .i64 b] w (ZePost L a b w) := by
  have HC := Lib.hid (com_impl A n c L a b w hs hm hcap)
  have HS := Lib.hid hs
  have hlen := comR_len L a b
  clear hs
  rcases hk : twoK L a b with _ | _
  · have HR : Hid (zeK L a b = false) := by unfold Hid zeK; rw [hk]; rfl
    have HK := Lib.hid hk
    clear hk
    go_enter Try.func23, Try.ntmps23
    go_wp2_with fail
    refine HC.out.mono ?_
    rintro e w1 ⟨A1, c1, rfl, hI, hb⟩
    rw [HK.out]
    have HB := Lib.hid hb
    clear hI hb
    go_wp2_with fail
    go_ret3
    exact ze_no HR.out HB.out
  by_cases h0 : 0 < (comR L a b).length
  · have HK := Lib.hid hk
    have HR : Hid (zeK L a b = true) := by unfold Hid zeK; rw [hk, decide_eq_true h0]; rfl
    have hp := twoK_parts hk
    have HGA := Lib.hid (good_of_gauge (two_good hp.1 hp.2.1))
    have HGB := Lib.hid (good_of_gauge (two_good hp.1 hp.2.2.1))
    have h15 := HGA.out.2.2.2.1
    have h15b := HGB.out.2.2.2.1
    have hwa := word_len HGA.out.2.1
    have hwb := word_len HGB.out.2.1
    have hn0 : (((comR L a b).length : Int) == 0) = false := beq_eq_false_iff_ne.2 (by omega)
    have HTW := Lib.hid (fun W (hW : Below w.heap.size w W) => two_impl A n c L a b W (gauges_at HS.out hW) hm hcap)
    obtain ⟨ts, hts⟩ : ∃ ts, ts = comR L a b := ⟨_, rfl⟩
    have HTS := Lib.hid hts
    rw [← hts] at h0 hn0 hlen
    clear hk hp hts
    go_enter Try.func23, Try.ntmps23
    go_wp2_with fail
    refine HC.out.mono ?_
    rintro e w1 ⟨A1, c1, rfl, hI, hb⟩
    rw [HK.out, ← HTS.out]
    rw [← HTS.out] at hI
    have HI := Lib.hid hI
    have HB := Lib.hid hb
    clear hI hb
    go_wp2_with fail
    refine (HTW.out _ HB.out).mono ?_
    rintro e w2 (⟨hk, rfl, hb⟩ | ⟨hk, A3, c3, A4, c4, rfl, hsa, hsb, hb⟩)
    · exact absurd (hk.symm.trans HK.out) (by simp)
    have HI2 := Lib.hid (HI.out.on hb (Nat.le_refl _))
    have HB2 := Lib.hid (bthen HB.out hb HB.out.size)
    have HZ2 := Lib.hid hb.size
    have HSA := Lib.hid hsa
    have HSB := Lib.hid hsb
    clear hk hsa hsb hb
    obtain ⟨X, hX⟩ : ∃ X, X = w2.alloc (.cells #[.int .i64 (gAt L a).id, .string (gAt L a).nm, .int .i64 (gAt L a).ze, .slice A3 (gAt L a).l.length c3, .int .i64 (gAt L b).id, .string (gAt L b).nm, .int .i64 (gAt L b).ze, .slice A4 (gAt L b).l.length c4] 106) := ⟨_, rfl⟩
    have HX : Hid (Below w2.heap.size w2 X ∧ Has X w2.heap.size [.int .i64 (gAt L a).id, .string (gAt L a).nm, .int .i64 (gAt L a).ze, .slice A3 (gAt L a).l.length c3, .int .i64 (gAt L b).id, .string (gAt L b).nm, .int .i64 (gAt L b).ze, .slice A4 (gAt L b).l.length c4]) := by rw [hX]; exact box1 (Below.refl _ _)
    have HEX := Lib.hid hX
    clear hX
    go_wp2_with fail
    rw [← HEX.out]
    go_loopw [13, 45] (fun s i wr => ∃ k : Nat, k ≤ ts.length ∧ i = .int .i64 k ∧ s = .int .i64 (sumK (gAt L a) (gAt L b) ts k) ∧ Hid (Below w2.heap.size w2 wr ∧ Has wr w2.heap.size [.int .i64 (gAt L a).id, .string (gAt L a).nm, .int .i64 (gAt L a).ze, .slice A3 (gAt L a).l.length c3, .int .i64 (gAt L b).id, .string (gAt L b).nm, .int .i64 (gAt L b).ze, .slice A4 (gAt L b).l.length c4])) (fun _ i _ => ts.length - (intOf i).toNat)
    case atStart => exact ⟨0, Nat.zero_le _, rfl, by simp [sumK], Lib.hid HX.out⟩
    case round =>
      obtain ⟨k, hk, rfl, rfl, hR⟩ := hrel
      by_cases hlt : k < ts.length
      · obtain ⟨g, rfl, _, _, ht, _⟩ := (HI2.out.on hR.out.1 HZ2.out) k hlt
        dsimp only at ht
        have hst := sumK_step (gAt L a) (gAt L b) hlt
        obtain ⟨t, hte⟩ : ∃ t, t = ts.getD k 0 := ⟨_, rfl⟩
        rw [← hte] at ht hst
        have HST := Lib.hid hst
        have hbs := sumK_bd (gAt L a) (gAt L b) ts k hk
        have hba := hv_bd (gAt L a) t
        have hbb := hv_bd (gAt L b) t
        obtain ⟨S, hS⟩ : ∃ S, S = sumK (gAt L a) (gAt L b) ts k := ⟨_, rfl⟩
        rw [← hS] at hbs HST
        rw [← hS]
        obtain ⟨hbs1, hbs2⟩ := hbs
        obtain ⟨hba1, hba2⟩ := hba
        obtain ⟨hbb1, hbb2⟩ := hbb
        clear hst hte hS
        have m0 := hR.out.2.at_ 0 _ rfl
        have m1 := hR.out.2.at_ 1 _ rfl
        have m2 := hR.out.2.at_ 2 _ rfl
        have m3 := hR.out.2.at_ 3 _ rfl
        go_wp2_with fail
        refine (htI_v (gAt L a) _ _ t _ (spots_more HSA.out hR.out.1) (by unfold maxLen; omega) (by unfold maxLen; omega)).mono ?_
        rintro e w5 ⟨rfl, hb⟩
        have HR5 := Lib.hid (And.intro (bthen hR.out.1 hb hR.out.1.size) (hR.out.2.next hb))
        clear hb m0 m1 m2 m3 ht
        have m4 := HR5.out.2.at_ 4 _ rfl
        have m5 := HR5.out.2.at_ 5 _ rfl
        have m6 := HR5.out.2.at_ 6 _ rfl
        have m7 := HR5.out.2.at_ 7 _ rfl
        go_wp2_with fail
        refine (htI_v (gAt L b) _ _ t _ (spots_more HSB.out HR5.out.1) (by unfold maxLen; omega) (by unfold maxLen; omega)).mono ?_
        rintro e w6 ⟨rfl, hb⟩
        have HR6 := Lib.hid (And.intro (bthen HR5.out.1 hb HR5.out.1.size) (HR5.out.2.next hb))
        clear hb m4 m5 m6 m7
        go_wp2_with fail
        go_roundw
        case rel => exact ⟨k + 1, by omega, by go_num, by rw [HST.out], HR6⟩
        case measure => simp [intOf]; omega
      · obtain rfl : k = ts.length := by omega
        have hbs := sumK_bd (gAt L a) (gAt L b) ts ts.length (Nat.le_refl _)
        have HF : Hid (∀ W, Below w.heap.size w W → ZePost L a b w (.returned (.tuple #[.int .i64 ((sumK (gAt L a) (gAt L b) ts ts.length).tdiv (gd (sumK (gAt L a) (gAt L b) ts ts.length) ts.length : Nat)), .int .i64 ((ts.length : Int) / (gd (sumK (gAt L a) (gAt L b) ts ts.length) ts.length : Nat)), .bool true])) W) := Lib.hid fun W hW => by
          rw [HTS.out]
          exact ze_yes HR.out hW
        go_wp2_with fail
        refine (lowest_impl _ _ _ (by omega) (by omega) h0 (by omega)).mono ?_
        rintro e w5 ⟨rfl, hb⟩
        have HT := Lib.hid (bthen HB2.out (bthen hR.out.1 hb hR.out.1.size) HB2.out.size)
        clear hb hbs
        go_wp2_with fail
        go_ret3
        exact HF.out _ HT.out
  · have HR : Hid (zeK L a b = false) := by unfold Hid zeK; rw [decide_eq_false h0, Bool.and_false]
    have HK := Lib.hid hk
    have hz : (comR L a b).length ≤ 0 := by omega
    have hn0 : (((comR L a b).length : Int) == 0) = true := by simpa using hz
    clear hk h0 hz hlen
    go_enter Try.func23, Try.ntmps23
    go_wp2_with fail
    refine HC.out.mono ?_
    rintro e w1 ⟨A1, c1, rfl, hI, hb⟩
    rw [HK.out]
    have HB := Lib.hid hb
    clear hI hb
    go_wp2_with fail
    go_ret3
    exact ze_no HR.out HB.out
end Go.Proofs.Ytdmnkmdlochogaa
