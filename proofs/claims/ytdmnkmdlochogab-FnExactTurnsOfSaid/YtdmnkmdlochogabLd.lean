/-
  Lengths and overlaps: contracts of impl.LineLengths, spec.LineLengths, slices.IndexFunc over lines with the closure of impl.lineOf, impl.lineOf, spec.l9Find, impl.OverlapOf, spec.OverlapOf over this translation. Conditions: stated at each theorem.
-/
import Derived.Test.YtdmnkmdlochogabCa
import Derived.Test.YtdmnkmdlochogabLw
import Derived.Test.YtdmnkmdlochogabRed
import Derived.Test.YtdmnkmdlochogabSk
namespace Go.Proofs.Ytdmnkmdlochogab
open Go.RowKit
set_option linter.unusedVariables false

def llR (L : List LN) : Int := if lnsB L then llK L L.length else 0
def NumPost (x : Int) (K : Bool) (w : World) (e : Ending) (w' : World) : Prop := e = .returned (.tuple #[.int .i64 x, .bool K]) ∧ Below w.heap.size w w'
theorem num_post {x y : Int} {K K' : Bool} {w w' : World} (h1 : x = y) (h2 : K = K') (hb : Below w.heap.size w w') : NumPost y K' w (.returned (.tuple #[.int .i64 x, .bool K])) w' := by subst h1; subst h2; exact ⟨rfl, hb⟩
set_option maxHeartbeats 1600000 in
theorem len_impl (A : Option Addr) (n c0 : Nat) (L : List LN) (w : World) (hs : SdsN w w.heap.size A n L) (hm : n ≤ maxLen) :
    Calls Try.prog 30 #[.slice A n c0] w (NumPost (llR L) (lnsB L) w) := by
  obtain rfl := hs.1
  have HS := Lib.hid hs
  clear hs
  rcases h1 : lnsB L with _ | _
  · have H1 := Lib.hid h1
    have HR : Hid ((0 : Int) = llR L) := by unfold Hid llR; rw [h1]; rfl
    clear h1
    go_enter Try.func30, Try.ntmps30
    go_wp2_with fail
    refine (lns_impl_v A L.length c0 L _ H1.out _ HS.out hm).mono ?_
    rintro e w1 ⟨rfl, hb⟩
    have HX := Lib.hid hb
    clear hb
    go_wp2_with fail
    go_ret2
    exact num_post HR.out rfl HX.out
  have H1 := Lib.hid h1
  have HG := Lib.hid (good9_of h1)
  have h8 := HG.out.max
  have HR : Hid (llK L L.length = llR L) := by unfold Hid llR; rw [h1]; rfl
  clear h1
  go_enter Try.func30, Try.ntmps30
  go_wp2_with fail
  refine (lns_impl_v A L.length c0 L _ H1.out _ HS.out hm).mono ?_
  rintro e w1 ⟨rfl, hb⟩
  have HX := Lib.hid hb
  clear hb
  go_wp2_with fail
  go_loopw [4, 12] (fun s i wr => ∃ (k : Nat) (x : Int), k ≤ L.length ∧ 0 ≤ x ∧ x ≤ 8000 ∧ i = .int .i64 k ∧ s = .int .i64 x ∧ Hid (x = llK L k) ∧ Hid (Below w.heap.size w wr)) (fun _ i _ => L.length - (intOf i).toNat)
  case atStart => exact ⟨0, 0, Nat.zero_le _, by decide, by decide, rfl, rfl, Lib.hid rfl, HX⟩
  case round =>
    obtain ⟨k, x, hk, hx0, hx1, rfl, rfl, hA, hB⟩ := hrel
    by_cases hlt : k < L.length
    · obtain ⟨b, o, u, rfl, hbl, hL, c0, c1, c2, c3, c4⟩ := (sds_atN HS.out hB.out).2 k hlt
      obtain ⟨q1, q2, q3, q4, q5, q6⟩ := lnB_parts (HG.out.mem (List.mem_of_getElem? hL))
      have HN : Hid (x + (u.to - u.fr) = llK L (k + 1)) := by unfold Hid; rw [llK, lnAt_at hL, ← hA.out]; omega
      have hbd : 0 ≤ x + (u.to - u.fr) ∧ x + (u.to - u.fr) ≤ 8000 := by have h := llK_bd HG.out (k + 1) (by omega); rw [← HN.out] at h; omega
      clear hL
      have HB2 := Lib.hid (bthen hB.out (box1 (w := wr) (cs := #[.int .i64 u.id, .int .i64 u.y, .int .i64 u.fr, .int .i64 u.to, .int .i64 u.sw]) (T := 34) (Below.refl _ _)).1 hB.out.size)
      go_wp2_with fail
      go_roundw
      case rel => exact ⟨k + 1, x + (u.to - u.fr), by omega, hbd.1, hbd.2, by go_num, rfl, HN, HB2⟩
      case measure => simp [intOf]; omega
    · obtain rfl : k = L.length := by omega
      go_wp2_with fail
      go_ret2
      exact num_post (hA.out.trans HR.out) rfl hB.out
set_option maxHeartbeats 1600000 in
theorem len_spec (A : Option Addr) (n c0 : Nat) (L : List LN) (w : World) (hs : SdsN w w.heap.size A n L) (hm : n ≤ maxLen) :
    Calls Try.prog 31 #[.slice A n c0] w (NumPost (llR L) (lnsB L) w) := by
  obtain rfl := hs.1
  have HS := Lib.hid hs
  clear hs
  rcases h1 : lnsB L with _ | _
  · have H1 := Lib.hid h1
    have HR : Hid ((0 : Int) = llR L) := by unfold Hid llR; rw [h1]; rfl
    clear h1
    go_enter Try.func31, Try.ntmps31
    go_wp2_with fail
    refine (lgood_spec_v A L.length c0 L _ H1.out _ HS.out hm).mono ?_
    rintro e w1 ⟨rfl, hb⟩
    have HX := Lib.hid hb
    clear hb
    go_wp2_with fail
    go_ret2
    exact num_post HR.out rfl HX.out
  have H1 := Lib.hid h1
  have HG := Lib.hid (good9_of h1)
  have h8 := HG.out.max
  have HR : Hid (llK L L.length = llR L) := by unfold Hid llR; rw [h1]; rfl
  clear h1
  go_enter Try.func31, Try.ntmps31
  go_wp2_with fail
  refine (lgood_spec_v A L.length c0 L _ H1.out _ HS.out hm).mono ?_
  rintro e w1 ⟨rfl, hb⟩
  have HX := Lib.hid hb
  clear hb
  go_wp2_with fail
  go_loopw [4, 5] (fun s i wr => ∃ (k : Nat) (x : Int), k ≤ L.length ∧ 0 ≤ x ∧ x ≤ 8000 ∧ i = .int .i64 k ∧ s = .int .i64 x ∧ Hid (x = llK L k) ∧ Hid (Below w.heap.size w wr)) (fun _ i _ => L.length - (intOf i).toNat)
  case atStart => exact ⟨0, 0, Nat.zero_le _, by decide, by decide, rfl, rfl, Lib.hid rfl, HX⟩
  case round =>
    obtain ⟨k, x, hk, hx0, hx1, rfl, rfl, hA, hB⟩ := hrel
    by_cases hlt : k < L.length
    · obtain ⟨b, o, u, rfl, hbl, hL, c0, c1, c2, c3, c4⟩ := (sds_atN HS.out hB.out).2 k hlt
      obtain ⟨q1, q2, q3, q4, q5, q6⟩ := lnB_parts (HG.out.mem (List.mem_of_getElem? hL))
      have HN : Hid (x + u.to - u.fr = llK L (k + 1)) := by unfold Hid; rw [llK, lnAt_at hL, ← hA.out]
      have hbd : 0 ≤ x + u.to - u.fr ∧ x + u.to - u.fr ≤ 8000 := by have h := llK_bd HG.out (k + 1) (by omega); rw [← HN.out] at h; omega
      clear hL
      obtain ⟨W0, rfl⟩ : ∃ W : World, W = wr := ⟨_, rfl⟩
      go_wp2_with fail
      have lc0 := lcell (c2)
      have lc1 := lcell (c3)
      refine region_later (W := W0) (by kernel_rfl) (by kernel_rfl) (Below.refl _ _) ?_
      repeat (go_big_quiet_step ((fail)))
      refine wpQuiet_nil ?_
      intro W1 hW1
      have HL : Hid (Below W0.heap.size W0 W1) := by obtain ⟨x, rfl⟩ := hW1; exact Lib.hid x.below
      clear hW1 lc0 lc1
      have HB2 := Lib.hid (bthen hB.out HL.out hB.out.size)
      go_wp2_with fail
      go_roundw
      case rel => exact ⟨k + 1, x + u.to - u.fr, by omega, hbd.1, hbd.2, by go_num, rfl, HN, HB2⟩
      case measure => simp [intOf]; omega
    · obtain rfl : k = L.length := by omega
      go_wp2_with fail
      go_ret2
      exact num_post (hA.out.trans HR.out) rfl hB.out
/-! ### The line with an id -/
theorem idN_any (i : Int) (p : Nat) (u : LN) (v : Bool) (hv : decide (u.id = i) = v) (w : World) (hp : w.cell? ⟨p, 0, none⟩ = some (.int .i64 i)) :
    Calls Try.prog 167 #[.agg #[.int .i64 u.id, .int .i64 u.y, .int .i64 u.fr, .int .i64 u.to, .int .i64 u.sw], .pointer (some ⟨p, 0, none⟩)] w fun e w' => e = .returned (.bool v) ∧ Below w.heap.size w w' := by
  have hp' := cell_next ((Below.refl w.heap.size w).alloc (Nat.le_refl _) (.cells #[.int .i64 u.id, .int .i64 u.y, .int .i64 u.fr, .int .i64 u.to, .int .i64 u.sw] 34)) hp
  clear hp
  subst hv
  by_cases h : u.id = i
  · have HR : Hid (decide (u.id = i) = true) := Lib.hid (decide_eq_true h)
    subst h
    go_enter Try.func167, Try.ntmps167
    go_wp2_with fail
    go_ret
    exact ⟨ret_bool (by simp), (Below.refl _ _).alloc (Nat.le_refl _) _⟩
  · have HR : Hid (decide (u.id = i) = false) := Lib.hid (decide_eq_false h)
    have hne : (u.id == i) = false := beq_eq_false_iff_ne.2 h
    go_enter Try.func167, Try.ntmps167
    go_wp2_with fail
    go_ret
    exact ⟨ret_bool (by rw [HR.out]; try simp [hne]), (Below.refl _ _).alloc (Nat.le_refl _) _⟩
set_option maxRecDepth 100000 in
set_option maxHeartbeats 1600000 in
theorem indexN (i : Int) (p : Nat) (A : Option Addr) (n c0 : Nat) (L : List LN) (w : World) (hs : SdsN w w.heap.size A n L) (hm : n ≤ maxLen) (hp : w.cell? ⟨p, 0, none⟩ = some (.int .i64 i)) :
    Calls Try.prog 166 #[.slice A n c0, .func (.func 167) #[] #[.pointer (some ⟨p, 0, none⟩)]] w fun e w' => e = .returned (.int .i64 (lfS L i)) ∧ Below w.heap.size w w' := by
  obtain rfl := hs.1
  have HS := Lib.hid hs
  have HPC := Lib.hid hp
  clear hs hp
  unfold maxLen at hm
  go_enter Try.func166, Try.ntmps166
  go_wp2_with fail
  go_loopw [8] (fun q wr => ∃ k : Nat, k ≤ L.length ∧ q = .int .i64 k ∧ Hid (∀ j, j < k → (lnAt L j).id ≠ i) ∧ Hid (Below w.heap.size w wr)) (fun q _ => L.length - (intOf q).toNat)
  case atStart => exact ⟨0, Nat.zero_le _, rfl, Lib.hid (fun j h => absurd h (by omega)), Lib.hid (Below.refl _ _)⟩
  case round =>
    obtain ⟨k, hk, rfl, hA, hB⟩ := hrel
    by_cases hlt : k < L.length
    · obtain ⟨b, o, u, rfl, hbl, hL, c0, c1, c2, c3, c4⟩ := (sds_atN HS.out hB.out).2 k hlt
      have HK := Lib.hid (lnAt_at hL)
      clear hL
      rcases hv : decide (u.id = i) with _ | _
      · have HV := Lib.hid hv
        have HN : Hid (∀ j, j < k + 1 → (lnAt L j).id ≠ i) := Lib.hid fun j hj => by
          rcases Nat.lt_or_ge j k with h | h
          · exact hA.out j h
          · obtain rfl : j = k := by omega
            rw [HK.out]; exact of_decide_eq_false hv
        clear hv
        go_wp2_with fail
        refine (idN_any i p u _ HV.out _ (cell_next (Below.mono hB.out (Nat.le_refl _)) HPC.out)).mono ?_
        rintro e w1 ⟨rfl, hb⟩
        have HB1 := Lib.hid (bthen hB.out hb hB.out.size)
        clear hb c0 c1 c2 c3 c4
        go_wp2_with fail
        go_roundw
        case rel => exact ⟨k + 1, by omega, by go_num, HN, HB1⟩
        case measure => simp [intOf]; omega
      · have HV := Lib.hid hv
        have HR : Hid ((k : Int) = lfS L i) := Lib.hid (lfK_hit hlt (by rw [HK.out]; exact of_decide_eq_true hv) hA.out).symm
        clear hv
        go_wp2_with fail
        refine (idN_any i p u _ HV.out _ (cell_next (Below.mono hB.out (Nat.le_refl _)) HPC.out)).mono ?_
        rintro e w1 ⟨rfl, hb⟩
        have HB1 := Lib.hid (bthen hB.out hb hB.out.size)
        clear hb c0 c1 c2 c3 c4
        go_wp2_with fail
        go_ret
        exact ⟨ret_int HR.out, HB1.out⟩
    · obtain rfl : k = L.length := by omega
      have HR : Hid ((-1 : Int) = lfS L i) := Lib.hid (lfK_none hA.out).symm
      go_wp2_with fail
      go_ret
      exact ⟨ret_int HR.out, hB.out⟩
set_option maxHeartbeats 1600000 in
theorem find_spec (i : Int) (A : Option Addr) (n c0 : Nat) (L : List LN) (f : Int) (hf : lfS L i = f) (w : World) (hs : SdsN w w.heap.size A n L) (hm : n ≤ maxLen) :
    Calls Try.prog 102 #[.slice A n c0, .int .i64 i] w fun e w' => e = .returned (.int .i64 f) ∧ w = w' := by
  obtain rfl := hs.1
  have HS := Lib.hid hs
  have HF := Lib.hid hf
  clear hs hf
  unfold maxLen at hm
  go_enter Try.func102, Try.ntmps102
  go_wp2_with fail
  go_loop [5] (fun q => ∃ k : Nat, k ≤ L.length ∧ q = .int .i64 k ∧ Hid (∀ j, j < k → (lnAt L j).id ≠ i)) (fun q => L.length - (intOf q).toNat)
  case atStart => exact ⟨0, Nat.zero_le _, rfl, Lib.hid (fun j h => absurd h (by omega))⟩
  case round =>
    obtain ⟨k, hk, rfl, hA⟩ := hrel
    by_cases hlt : k < L.length
    · obtain ⟨b, o, u, rfl, hbl, hL, c0, c1, c2, c3, c4⟩ := HS.out.2 k hlt
      have HK := Lib.hid (lnAt_at hL)
      clear hL c1 c2 c3 c4
      by_cases hv : u.id = i
      · have HR : Hid ((k : Int) = f) := Lib.hid ((lfK_hit hlt (by rw [HK.out]; exact hv) hA.out).symm.trans HF.out)
        have hne : (u.id == i) = true := beq_iff_eq.2 hv
        go_wp2_with fail
        go_ret
        exact ⟨ret_int HR.out, rfl⟩
      · have HN : Hid (∀ j, j < k + 1 → (lnAt L j).id ≠ i) := Lib.hid fun j hj => by
          rcases Nat.lt_or_ge j k with h | h
          · exact hA.out j h
          · obtain rfl : j = k := by omega
            rw [HK.out]; exact hv
        have hne : (u.id == i) = false := beq_eq_false_iff_ne.2 hv
        go_wp2_with fail
        go_round
        case rel => exact ⟨k + 1, by omega, by go_num, HN⟩
        case measure => simp [intOf]; omega
    · obtain rfl : k = L.length := by omega
      have HR : Hid ((-1 : Int) = f) := Lib.hid ((lfK_none hA.out).symm.trans HF.out)
      go_wp2_with fail
      go_ret
      exact ⟨ret_int HR.out, rfl⟩
theorem has_lineN {w : World} {g : Nat} {x0 x1 x2 x3 x4 : Value} (h : Has w g [x0, x1, x2, x3, x4]) (v : LN) : Has (setL w g 0 [.int .i64 v.id, .int .i64 v.y, .int .i64 v.fr, .int .i64 v.to, .int .i64 v.sw]) g [.int .i64 v.id, .int .i64 v.y, .int .i64 v.fr, .int .i64 v.to, .int .i64 v.sw] := ((((h.set 0 (.int .i64 v.id)).set 1 (.int .i64 v.y)).set 2 (.int .i64 v.fr)).set 3 (.int .i64 v.to)).set 4 (.int .i64 v.sw)
theorem has_otherN {w : World} {g g' : Nat} {cs : List Value} (h : Has w g cs) (hne : g' ≠ g) (o : Nat) (vs : List Value) : Has (setL w g' o vs) g cs := by
  induction vs generalizing w o with
  | nil => exact h
  | cons v vs ih => exact ih (h.far (p := ⟨g', o, none⟩) hne v) (o + 1)
theorem least_v (a b v : Int) (h : min a b = v) (w : World) : Calls Try.prog 90 #[.int .i64 a, .int .i64 b] w fun e w' => e = .returned (.int .i64 v) ∧ w = w' := h ▸ least_any a b w
theorem most_v (a b v : Int) (h : max a b = v) (w : World) : Calls Try.prog 97 #[.int .i64 a, .int .i64 b] w fun e w' => e = .returned (.int .i64 v) ∧ w = w' := h ▸ most_any a b w
def zN : LN := ⟨0, 0, 0, 0, 0⟩
/-- The line with the id, or the zero one. -/
def lfU (L : List LN) (i : Int) : LN := if 0 ≤ lfS L i then lnAt L (lfS L i).toNat else zN
theorem lf_some {L : List LN} {i : Int} (h : 0 ≤ lfS L i) : ∃ k : Nat, k < L.length ∧ lfS L i = k ∧ lfU L i = lnAt L k := by
  rcases lfK_ex L i L.length with ⟨e, _⟩ | ⟨k, hk, _, e⟩
  · have : lfS L i = -1 := e
    omega
  · have e' : lfS L i = k := e
    refine ⟨k, hk, e', ?_⟩
    unfold lfU
    rw [if_pos h, e', Int.toNat_natCast]
theorem lf_none {L : List LN} {i : Int} (h : ¬ 0 ≤ lfS L i) : lfS L i = -1 ∧ lfU L i = zN := by
  rcases lfK_ex L i L.length with ⟨e, _⟩ | ⟨k, hk, _, e⟩
  · exact ⟨e, by unfold lfU; rw [if_neg h]⟩
  · have : lfS L i = k := e
    omega
set_option maxRecDepth 20000 in
set_option maxHeartbeats 1600000 in
theorem lineOf_impl (i : Int) (A : Option Addr) (n c0 : Nat) (L : List LN) (u : LN) (v : Bool) (hu : lfU L i = u) (hv : decide (0 ≤ lfS L i) = v) (w : World) (hs : SdsN w w.heap.size A n L) (hm : n ≤ maxLen) :
    Calls Try.prog 100 #[.slice A n c0, .int .i64 i] w fun e w' => e = .returned (.tuple #[.agg #[.int .i64 u.id, .int .i64 u.y, .int .i64 u.fr, .int .i64 u.to, .int .i64 u.sw], .bool v]) ∧ Below w.heap.size w w' := by
  obtain rfl := hs.1
  have HX0 := box2 (w := w) (cs := #[.int .i64 i]) (ds := #[.int .i64 0, .int .i64 0, .int .i64 0, .int .i64 0, .int .i64 0]) (T := 3) (T' := 34) (Below.refl _ _)
  have HS := Lib.hid (sds_atN hs HX0.1)
  have HPC := Lib.hid (HX0.2.1.at_ 0 _ rfl)
  have HX := Lib.hid HX0
  clear hs HX0
  have hm2 : L.length ≤ 9223372036854775807 := hm
  by_cases h : 0 ≤ lfS L i
  · obtain ⟨k, hk, hf, hue⟩ := lf_some h
    obtain rfl : v = true := hv.symm.trans (decide_eq_true h)
    rw [hu] at hue
    have HF := Lib.hid hf
    have HUE := Lib.hid hue
    clear hf hu hv h hue
    go_enter Try.func100, Try.ntmps100
    go_wp2_with fail
    refine (indexN i w.heap.size A _ c0 L _ HS.out hm HPC.out).mono ?_
    rintro e w1 ⟨rfl, hb⟩
    rw [HF.out]
    have HX1 := Lib.hid (box2 hb)
    obtain ⟨b, o, z, rfl, hbl, hL, c0, c1, c2, c3, c4⟩ := (sds_atN HS.out hb).2 k hk
    obtain rfl : z = u := (lnAt_at hL).symm.trans HUE.out.symm
    clear hb hL
    have f0 := HX1.out.2.2.free 0
    have f1 := HX1.out.2.2.free 1
    have f2 := HX1.out.2.2.free 2
    have f3 := HX1.out.2.2.free 3
    have f4 := HX1.out.2.2.free 4
    have e0 := HX1.out.2.2.at_ 0 _ rfl
    have e1 := HX1.out.2.2.at_ 1 _ rfl
    have e2 := HX1.out.2.2.at_ 2 _ rfl
    have e3 := HX1.out.2.2.at_ 3 _ rfl
    have e4 := HX1.out.2.2.at_ 4 _ rfl
    have HB2 := Lib.hid (setL_below [.int .i64 z.id, .int .i64 z.y, .int .i64 z.fr, .int .i64 z.to, .int .i64 z.sw] HX1.out.1 (show w.heap.size ≤ w.heap.size + 1 by omega) 0)
    go_wp2_with fail
    refine bodyPost_ret (v := .tuple #[.agg #[.int .i64 z.id, .int .i64 z.y, .int .i64 z.fr, .int .i64 z.to, .int .i64 z.sw], .bool true]) (by simp [results, Try.results100, go_sem, e0, e1, e2, e3, e4]) rfl ⟨rfl, HB2.out⟩
  · obtain ⟨hf, hue⟩ := lf_none h
    obtain rfl : v = false := hv.symm.trans (decide_eq_false h)
    obtain rfl : u = zN := hu.symm.trans hue
    have HF := Lib.hid hf
    clear hf hu hv h hue
    go_enter Try.func100, Try.ntmps100
    go_wp2_with fail
    refine (indexN i w.heap.size A _ c0 L _ HS.out hm HPC.out).mono ?_
    rintro e w1 ⟨rfl, hb⟩
    rw [HF.out]
    have HX1 := Lib.hid (box2 hb)
    clear hb
    have f0 := HX1.out.2.2.free 0
    have f1 := HX1.out.2.2.free 1
    have f2 := HX1.out.2.2.free 2
    have f3 := HX1.out.2.2.free 3
    have f4 := HX1.out.2.2.free 4
    have e0 := HX1.out.2.2.at_ 0 _ rfl
    have e1 := HX1.out.2.2.at_ 1 _ rfl
    have e2 := HX1.out.2.2.at_ 2 _ rfl
    have e3 := HX1.out.2.2.at_ 3 _ rfl
    have e4 := HX1.out.2.2.at_ 4 _ rfl
    have HB2 := Lib.hid (setL_below [.int .i64 0, .int .i64 0, .int .i64 0, .int .i64 0, .int .i64 0] HX1.out.1 (show w.heap.size ≤ w.heap.size + 1 by omega) 0)
    go_wp2_with fail
    refine bodyPost_ret (v := .tuple #[.agg #[.int .i64 0, .int .i64 0, .int .i64 0, .int .i64 0, .int .i64 0], .bool false]) (by simp [results, Try.results100, go_sem, e0, e1, e2, e3, e4]) rfl ⟨rfl, HB2.out⟩
/-! ### Overlaps -/
def ovK (L : List LN) (a b : Int) : Bool := lnsB L && (decide (0 ≤ lfS L a) && decide (0 ≤ lfS L b))
def ovR (L : List LN) (a b : Int) : Int := if ovK L a b then ovN (lfU L a) (lfU L b) else 0
theorem five_at {w : World} {g : Nat} {u : LN} (h : Has w g [.int .i64 u.id, .int .i64 u.y, .int .i64 u.fr, .int .i64 u.to, .int .i64 u.sw]) : w.cell? ⟨g, 0, none⟩ = some (.int .i64 u.id) ∧ w.cell? ⟨g, 1, none⟩ = some (.int .i64 u.y) ∧ w.cell? ⟨g, 2, none⟩ = some (.int .i64 u.fr) ∧ w.cell? ⟨g, 3, none⟩ = some (.int .i64 u.to) ∧ w.cell? ⟨g, 4, none⟩ = some (.int .i64 u.sw) := ⟨h.at_ 0 _ rfl, h.at_ 1 _ rfl, h.at_ 2 _ rfl, h.at_ 3 _ rfl, h.at_ 4 _ rfl⟩
set_option maxRecDepth 20000 in
set_option maxHeartbeats 3200000 in
theorem overlap_impl (A : Option Addr) (n c0 : Nat) (L : List LN) (a b : Int) (w : World) (hs : SdsN w w.heap.size A n L) (hm : n ≤ maxLen) :
    Calls Try.prog 27 #[.slice A n c0, .int .i64 a, .int .i64 b] w (NumPost (ovR L a b) (ovK L a b) w) := by
  have HS := Lib.hid hs
  clear hs
  rcases h1 : lnsB L with _ | _
  · have H1 := Lib.hid h1
    have HR : Hid ((0 : Int) = ovR L a b ∧ false = ovK L a b) := by unfold Hid ovR ovK; rw [h1]; exact ⟨rfl, rfl⟩
    clear h1
    go_enter Try.func27, Try.ntmps27
    go_wp2_with fail
    refine (lns_impl_v A n c0 L _ H1.out _ HS.out hm).mono ?_
    rintro e w1 ⟨rfl, hb⟩
    have HX := Lib.hid hb
    clear hb
    go_wp2_with fail
    go_ret2
    exact num_post HR.out.1 HR.out.2 HX.out
  obtain ⟨ua, hua⟩ : ∃ u, lfU L a = u := ⟨_, rfl⟩
  obtain ⟨ub, hub⟩ : ∃ u, lfU L b = u := ⟨_, rfl⟩
  obtain ⟨va, hva⟩ : ∃ v, decide (0 ≤ lfS L a) = v := ⟨_, rfl⟩
  obtain ⟨vb, hvb⟩ : ∃ v, decide (0 ≤ lfS L b) = v := ⟨_, rfl⟩
  have H1 := Lib.hid h1
  have HG := Lib.hid (good9_of h1)
  have HUA := Lib.hid hua
  have HUB := Lib.hid hub
  have HVA := Lib.hid hva
  have HVB := Lib.hid hvb
  have HOK : Hid (ovK L a b = (va && vb)) := by unfold Hid ovK; rw [h1, hva, hvb]; rfl
  have HSA : Hid (va = true → lnB ua = true) := Lib.hid fun e => by
    obtain ⟨k, hk, _, e2⟩ := lf_some (of_decide_eq_true (hva.trans e))
    rw [← hua, e2]; exact HG.out.one k hk
  have HSB : Hid (vb = true → lnB ub = true) := Lib.hid fun e => by
    obtain ⟨k, hk, _, e2⟩ := lf_some (of_decide_eq_true (hvb.trans e))
    rw [← hub, e2]; exact HG.out.one k hk
  clear h1 hua hub hva hvb
  go_enter Try.func27, Try.ntmps27
  go_wp2_with fail
  refine (lns_impl_v A n c0 L _ H1.out _ HS.out hm).mono ?_
  rintro e w1 ⟨rfl, hb⟩
  have HX := Lib.hid hb
  clear hb
  go_wp2_with fail
  refine (lineOf_impl a A n c0 L _ _ HUA.out HVA.out _ (sds_atN HS.out HX.out) hm).mono ?_
  rintro e w2 ⟨rfl, hb⟩
  have HX2 := Lib.hid (bthen HX.out hb HX.out.size)
  have HY2 := Lib.hid (box1 (w := w2) (cs := #[.int .i64 ua.id, .int .i64 ua.y, .int .i64 ua.fr, .int .i64 ua.to, .int .i64 ua.sw]) (T := 34) (Below.refl _ _))
  have HZ2 := Lib.hid (bthen HX2.out HY2.out.1 HX2.out.size)
  clear hb
  go_wp2_with fail
  refine (lineOf_impl b A n c0 L _ _ HUB.out HVB.out _ (sds_atN HS.out HZ2.out) hm).mono ?_
  rintro e w3 ⟨rfl, hb⟩
  obtain ⟨W4, hW4⟩ : ∃ W, W = w3.alloc (.cells #[.int .i64 ub.id, .int .i64 ub.y, .int .i64 ub.fr, .int .i64 ub.to, .int .i64 ub.sw] 34) := ⟨_, rfl⟩
  have hB4 : Below w3.heap.size w3 W4 := by rw [hW4]; exact (Below.refl _ _).alloc (Nat.le_refl _) _
  have HN4 : Hid (Has W4 w3.heap.size [.int .i64 ub.id, .int .i64 ub.y, .int .i64 ub.fr, .int .i64 ub.to, .int .i64 ub.sw]) := by rw [hW4]; exact Has.new _ _ _
  have HA4 := Lib.hid ((box1 hb).2.next hB4)
  have HX3 := Lib.hid (bthen HX2.out (box1 hb).1 HX2.out.size)
  have HX4 := Lib.hid (bthen HX3.out hB4 HX3.out.size)
  have HE := Lib.hid hW4
  clear hb hB4 hW4
  rcases va with _ | _
  · have HR : Hid ((0 : Int) = ovR L a b ∧ false = ovK L a b) := by unfold Hid ovR; rw [HOK.out]; exact ⟨rfl, rfl⟩
    go_wp2_with fail
    rw [← HE.out]
    go_ret2
    exact num_post HR.out.1 HR.out.2 HX4.out
  rcases vb with _ | _
  · have HR : Hid ((0 : Int) = ovR L a b ∧ false = ovK L a b) := by unfold Hid ovR; rw [HOK.out]; exact ⟨rfl, rfl⟩
    go_wp2_with fail
    rw [← HE.out]
    go_ret2
    exact num_post HR.out.1 HR.out.2 HX4.out
  have HR : Hid (ovN ua ub = ovR L a b ∧ true = ovK L a b) := by unfold Hid ovR; rw [HOK.out, HUA.out, HUB.out]; exact ⟨rfl, rfl⟩
  have HQA := Lib.hid (HSA.out rfl)
  have HQB := Lib.hid (HSB.out rfl)
  obtain ⟨p1, p2, p3, p4, p5, p6⟩ := lnB_parts HQA.out
  obtain ⟨q1, q2, q3, q4, q5, q6⟩ := lnB_parts HQB.out
  have fa1 : ∀ w, (Instr.field 25 (.agg #[.int .i64 ua.fr, .int .i64 (ua.y - ua.sw), .int .i64 ua.to, .int .i64 (ua.y + ua.sw)]) 1).run Try.prog w = .ok (.int .i64 (ua.y - ua.sw)) w := fun _ => by kernel_rfl
  have fa3 : ∀ w, (Instr.field 25 (.agg #[.int .i64 ua.fr, .int .i64 (ua.y - ua.sw), .int .i64 ua.to, .int .i64 (ua.y + ua.sw)]) 3).run Try.prog w = .ok (.int .i64 (ua.y + ua.sw)) w := fun _ => by kernel_rfl
  have fb1 : ∀ w, (Instr.field 25 (.agg #[.int .i64 ub.fr, .int .i64 (ub.y - ub.sw), .int .i64 ub.to, .int .i64 (ub.y + ub.sw)]) 1).run Try.prog w = .ok (.int .i64 (ub.y - ub.sw)) w := fun _ => by kernel_rfl
  have fb3 : ∀ w, (Instr.field 25 (.agg #[.int .i64 ub.fr, .int .i64 (ub.y - ub.sw), .int .i64 ub.to, .int .i64 (ub.y + ub.sw)]) 3).run Try.prog w = .ok (.int .i64 (ub.y + ub.sw)) w := fun _ => by kernel_rfl
  obtain ⟨a0, a1, a2, a3, a4⟩ := five_at HA4.out
  obtain ⟨b0, b1, b2, b3, b4⟩ := five_at HN4.out
  go_wp2_with fail
  rw [← HE.out]
  have lc0 := lcell (a0)
  have lc1 := lcell (a1)
  have lc2 := lcell (a2)
  have lc3 := lcell (a3)
  have lc4 := lcell (a4)
  have lc5 := lcell (b0)
  have lc6 := lcell (b1)
  have lc7 := lcell (b2)
  have lc8 := lcell (b3)
  have lc9 := lcell (b4)
  refine region_later (W := W4) (by kernel_rfl) (by kernel_rfl) (Below.refl _ _) ?_
  repeat (go_big_quiet_step (((first | (go_at_call 101; with_reducible exact later_call (strip_impl ua HQA.out _)) | (go_at_call 101; with_reducible exact later_call (strip_impl ub HQB.out _))))))
  refine wpQuiet_nil ?_
  intro W5 hW1
  have HL : Hid (Below W4.heap.size W4 W5) := by obtain ⟨x, rfl⟩ := hW1; exact Lib.hid x.below
  clear hW1 lc0 lc1 lc2 lc3 lc4 lc5 lc6 lc7 lc8 lc9
  have HX5 := Lib.hid (bthen HX4.out HL.out HX4.out.size)
  have HA5 := Lib.hid (HA4.out.next HL.out)
  have HN5 := Lib.hid (HN4.out.next HL.out)
  clear a0 a1 a2 a3 a4 b0 b1 b2 b3 b4
  obtain ⟨a0, a1, a2, a3, a4⟩ := five_at HA5.out
  obtain ⟨b0, b1, b2, b3, b4⟩ := five_at HN5.out
  obtain ⟨S, hS⟩ : ∃ S, S = (if ua.y - ua.sw < ub.y - ub.sw then ub.y - ub.sw else ua.y - ua.sw) := ⟨_, rfl⟩
  rw [← hS]
  have HSM : Hid (S = max (ua.y - ua.sw) (ub.y - ub.sw)) := by unfold Hid; rw [hS]; split <;> omega
  have hS1 : -400 ≤ S ∧ S ≤ 1400 := by have := HSM.out; omega
  clear hS
  go_wp2_with fail
  have lc0 := lcell (a0)
  have lc1 := lcell (a1)
  have lc2 := lcell (a2)
  have lc3 := lcell (a3)
  have lc4 := lcell (a4)
  have lc5 := lcell (b0)
  have lc6 := lcell (b1)
  have lc7 := lcell (b2)
  have lc8 := lcell (b3)
  have lc9 := lcell (b4)
  refine region_later (W := W5) (by kernel_rfl) (by kernel_rfl) (Below.refl _ _) ?_
  repeat (go_big_quiet_step (((first | (go_at_call 101; with_reducible exact later_call (strip_impl ua HQA.out _)) | (go_at_call 101; with_reducible exact later_call (strip_impl ub HQB.out _))))))
  refine wpQuiet_nil ?_
  intro W6 hW1
  have HL : Hid (Below W5.heap.size W5 W6) := by obtain ⟨x, rfl⟩ := hW1; exact Lib.hid x.below
  clear hW1 lc0 lc1 lc2 lc3 lc4 lc5 lc6 lc7 lc8 lc9
  have HX6 := Lib.hid (bthen HX5.out HL.out HX5.out.size)
  clear a0 a1 a2 a3 a4 b0 b1 b2 b3 b4
  obtain ⟨N, hN⟩ : ∃ N, N = (if ub.y + ub.sw < ua.y + ua.sw then ub.y + ub.sw else ua.y + ua.sw) := ⟨_, rfl⟩
  rw [← hN]
  have HNM : Hid (N = min (ua.y + ua.sw) (ub.y + ub.sw)) := by unfold Hid; rw [hN]; split <;> omega
  have hN1 : -400 ≤ N ∧ N ≤ 1400 := by have := HNM.out; omega
  have HOV : Hid (max 0 (N - S) = ovN ua ub) := by unfold Hid ovN; rw [HNM.out, HSM.out]
  clear hN p1 p2 p3 p4 p5 p6 q1 q2 q3 q4 q5 q6
  by_cases ho : 0 < N - S
  · have HO2 : Hid (N - S = ovR L a b) := Lib.hid (by rw [← HR.out.1, ← HOV.out]; omega)
    go_wp2_with fail
    go_ret2
    exact num_post HO2.out HR.out.2 HX6.out
  · have HO2 : Hid ((0 : Int) = ovR L a b) := Lib.hid (by rw [← HR.out.1, ← HOV.out]; omega)
    go_wp2_with fail
    go_ret2
    exact num_post HO2.out HR.out.2 HX6.out
set_option maxRecDepth 20000 in
set_option maxHeartbeats 6400000 in
theorem overlap_spec (A : Option Addr) (n c0 : Nat) (L : List LN) (a b : Int) (w : World) (hs : SdsN w w.heap.size A n L) (hm : n ≤ maxLen) :
    Calls Try.prog 28 #[.slice A n c0, .int .i64 a, .int .i64 b] w (NumPost (ovR L a b) (ovK L a b) w) := by
  have HS := Lib.hid hs
  clear hs
  have hm2 : n ≤ 9223372036854775807 := hm
  obtain ⟨fa, hfa⟩ : ∃ f, lfS L a = f := ⟨_, rfl⟩
  obtain ⟨fb, hfb⟩ : ∃ f, lfS L b = f := ⟨_, rfl⟩
  have HFA := Lib.hid hfa
  have HFB := Lib.hid hfb
  rcases h1 : lnsB L with _ | _
  · have H1 := Lib.hid h1
    have HR : Hid ((0 : Int) = ovR L a b ∧ false = ovK L a b) := by unfold Hid ovR ovK; rw [h1]; exact ⟨rfl, rfl⟩
    clear h1 hfa hfb
    go_enter Try.func28, Try.ntmps28
    go_wp2_with fail
    refine (find_spec a A n c0 L _ HFA.out _ HS.out hm).mono ?_
    rintro e w' ⟨rfl, rfl⟩
    go_wp2_with fail
    refine (find_spec b A n c0 L _ HFB.out _ HS.out hm).mono ?_
    rintro e w' ⟨rfl, rfl⟩
    go_wp2_with fail
    refine (lgood_spec_v A n c0 L _ H1.out _ HS.out hm).mono ?_
    rintro e w1 ⟨rfl, hb⟩
    have HX := Lib.hid hb
    clear hb
    go_wp2_with fail
    go_ret2
    exact num_post HR.out.1 HR.out.2 HX.out
  have H1 := Lib.hid h1
  have HG := Lib.hid (good9_of h1)
  by_cases ha : fa < 0
  · have HR : Hid ((0 : Int) = ovR L a b ∧ false = ovK L a b) := by unfold Hid ovR ovK; rw [hfa, decide_eq_false (show ¬ 0 ≤ fa by omega)]; simp
    clear h1 hfa hfb
    go_enter Try.func28, Try.ntmps28
    go_wp2_with fail
    refine (find_spec a A n c0 L _ HFA.out _ HS.out hm).mono ?_
    rintro e w' ⟨rfl, rfl⟩
    go_wp2_with fail
    refine (find_spec b A n c0 L _ HFB.out _ HS.out hm).mono ?_
    rintro e w' ⟨rfl, rfl⟩
    go_wp2_with fail
    refine (lgood_spec_v A n c0 L _ H1.out _ HS.out hm).mono ?_
    rintro e w1 ⟨rfl, hb⟩
    have HX := Lib.hid hb
    clear hb
    go_wp2_with fail
    go_ret2
    exact num_post HR.out.1 HR.out.2 HX.out
  by_cases hbn : fb < 0
  · have HR : Hid ((0 : Int) = ovR L a b ∧ false = ovK L a b) := by unfold Hid ovR ovK; rw [hfb, decide_eq_false (show ¬ 0 ≤ fb by omega)]; simp
    clear h1 hfa hfb
    go_enter Try.func28, Try.ntmps28
    go_wp2_with fail
    refine (find_spec a A n c0 L _ HFA.out _ HS.out hm).mono ?_
    rintro e w' ⟨rfl, rfl⟩
    go_wp2_with fail
    refine (find_spec b A n c0 L _ HFB.out _ HS.out hm).mono ?_
    rintro e w' ⟨rfl, rfl⟩
    go_wp2_with fail
    refine (lgood_spec_v A n c0 L _ H1.out _ HS.out hm).mono ?_
    rintro e w1 ⟨rfl, hb⟩
    have HX := Lib.hid hb
    clear hb
    go_wp2_with fail
    go_ret2
    exact num_post HR.out.1 HR.out.2 HX.out
  obtain ⟨i, hi, hie, hiu⟩ := lf_some (L := L) (i := a) (by omega)
  obtain ⟨k, hk, hke, hku⟩ := lf_some (L := L) (i := b) (by omega)
  obtain rfl : fa = i := hfa.symm.trans hie
  obtain rfl : fb = k := hfb.symm.trans hke
  have HR : Hid (ovN (lnAt L i) (lnAt L k) = ovR L a b ∧ true = ovK L a b) := by unfold Hid ovR ovK; rw [h1, hiu, hku, hie, hke, decide_eq_true (show (0 : Int) ≤ i by omega), decide_eq_true (show (0 : Int) ≤ k by omega)]; exact ⟨rfl, rfl⟩
  clear h1 hfa hfb ha hbn hie hke hiu hku
  go_enter Try.func28, Try.ntmps28
  go_wp2_with fail
  refine (find_spec a A n c0 L _ HFA.out _ HS.out hm).mono ?_
  rintro e w' ⟨rfl, rfl⟩
  go_wp2_with fail
  refine (find_spec b A n c0 L _ HFB.out _ HS.out hm).mono ?_
  rintro e w' ⟨rfl, rfl⟩
  go_wp2_with fail
  refine (lgood_spec_v A n c0 L _ H1.out _ HS.out hm).mono ?_
  rintro e w1 ⟨rfl, hb⟩
  have HX := Lib.hid hb
  clear hb
  obtain rfl := HS.out.1
  obtain ⟨b1, o1, ua, rfl, hbl, hL, c0, c1, c2, c3, c4⟩ := (sds_atN HS.out HX.out).2 i hi
  obtain ⟨b2, o2, ub, hA2, hbl2, hL2, d0, d1, d2, d3, d4⟩ := (sds_atN HS.out HX.out).2 k hk
  obtain ⟨rfl, rfl⟩ : b1 = b2 ∧ o1 = o2 := by injection hA2 with h; injection h with h h'; exact ⟨h, h'⟩
  have HUA := Lib.hid (lnAt_at hL)
  have HUB := Lib.hid (lnAt_at hL2)
  obtain ⟨p1, p2, p3, p4, p5, p6⟩ := lnB_parts (HG.out.mem (List.mem_of_getElem? hL))
  obtain ⟨q1, q2, q3, q4, q5, q6⟩ := lnB_parts (HG.out.mem (List.mem_of_getElem? hL2))
  clear hA2 hL hL2 hbl2
  go_wp2_with fail
  have lc0 := lcell c0
  have lc1 := lcell c1
  have lc2 := lcell c2
  have lc3 := lcell c3
  have lc4 := lcell c4
  have ld0 := lcell d0
  have ld1 := lcell d1
  have ld2 := lcell d2
  have ld3 := lcell d3
  have ld4 := lcell d4
  refine region_reads (W := w1) 11 4 [0, 1, 2, 3, 4, 5, 6, 7] (by kernel_rfl) (by kernel_rfl) rfl (Below.refl _ _) (fun d _ _ _ _ h => by cases d <;> exact h) ?_
  simp only [picks, List.getElem?_cons_succ, List.getElem?_cons_zero]
  repeat (go_big_quiet_step (fail))
  refine wpQuiet_nil ?_
  intro W3 hW1
  have HL0 : Hid (Below w1.heap.size w1 W3) := by obtain ⟨x, rfl⟩ := hW1; exact Lib.hid x.below
  clear hW1 lc0 lc1 lc2 lc3 lc4 ld0 ld1 ld2 ld3 ld4 c0 c1 c2 c3 c4 d0 d1 d2 d3 d4
  refine wpAnyN_two (i := 8) (i' := 9) (by kernel_rfl) ?_ ?_
  · refine wpOp_step rfl (fun K hK => ?_)
    rw [if_pos (by rfl)]
    have HB4 := Lib.hid (HL0.out.alloc HL0.out.size (.cells #[.int .i64 0, .int .i64 0, .int .i64 0, .int .i64 0, .int .i64 0] 34))
    go_simp
    refine hK _ _ ⟨⟨⟨_, HB4.out⟩, rfl⟩, ?_⟩
    clear hK K
    refine wpAnyN_one (i := 9) (by kernel_rfl) ?_
    refine wpOp_step rfl (fun K hK => ?_)
    rw [if_pos (by rfl)]
    have HB5 := Lib.hid (HB4.out.alloc HB4.out.size (.cells #[.int .i64 0, .int .i64 0, .int .i64 0, .int .i64 0, .int .i64 0] 34))
    have HV0 := Lib.hid (box2 (w := W3) (cs := #[.int .i64 0, .int .i64 0, .int .i64 0, .int .i64 0, .int .i64 0]) (ds := #[.int .i64 0, .int .i64 0, .int .i64 0, .int .i64 0, .int .i64 0]) (T := 34) (T' := 34) (Below.refl _ _))
    go_simp
    refine hK _ _ ⟨⟨⟨_, HB5.out⟩, rfl⟩, ?_⟩
    clear hK K
    obtain ⟨V, hV⟩ : ∃ V, V = (W3.alloc (.cells #[.int .i64 0, .int .i64 0, .int .i64 0, .int .i64 0, .int .i64 0] 34)).alloc (.cells #[.int .i64 0, .int .i64 0, .int .i64 0, .int .i64 0, .int .i64 0] 34) := ⟨_, rfl⟩
    rw [← hV]
    rw [← hV] at HB5 HV0
    clear hV HB4
    have HA : Hid (Has V (W3.heap.size) [.int .i64 0, .int .i64 0, .int .i64 0, .int .i64 0, .int .i64 0] ∧ Has V (W3.heap.size + 1) [.int .i64 0, .int .i64 0, .int .i64 0, .int .i64 0, .int .i64 0]) := Lib.hid ⟨HV0.out.2.1, HV0.out.2.2⟩
    have HGE : Hid (w1.heap.size ≤ W3.heap.size) := Lib.hid HL0.out.size
    have e0 := HA.out.1.at_ 0 _ rfl
    have e1 := HA.out.1.at_ 1 _ rfl
    have e2 := HA.out.1.at_ 2 _ rfl
    have e3 := HA.out.1.at_ 3 _ rfl
    have e4 := HA.out.1.at_ 4 _ rfl
    have f0 := HA.out.1.free 0
    have f1 := HA.out.1.free 1
    have f2 := HA.out.1.free 2
    have f3 := HA.out.1.free 3
    have f4 := HA.out.1.free 4
    have HB6 := Lib.hid (setL_below [.int .i64 ua.id, .int .i64 ua.y, .int .i64 ua.fr, .int .i64 ua.to, .int .i64 ua.sw] HB5.out (show w1.heap.size ≤ W3.heap.size by have := HGE.out; omega) 0)
    refine wpAnyN_one (i := 10) (by kernel_rfl) ?_
    refine wpOp_step rfl (fun K hK => ?_)
    rw [if_pos (by rfl)]
    go_simp
    refine hK _ _ ⟨⟨⟨_, HB6.out⟩, rfl⟩, ?_⟩
    clear hK K e0 e1 e2 e3 e4 f0 f1 f2 f3 f4
    obtain ⟨V2, hV⟩ : ∃ V2, V2 = setL V (W3.heap.size) 0 [.int .i64 ua.id, .int .i64 ua.y, .int .i64 ua.fr, .int .i64 ua.to, .int .i64 ua.sw] := ⟨_, rfl⟩
    rw [show (((((V.setCell ⟨W3.heap.size, 0, none⟩ (.int .i64 ua.id)).setCell ⟨W3.heap.size, 1, none⟩ (.int .i64 ua.y)).setCell ⟨W3.heap.size, 2, none⟩ (.int .i64 ua.fr)).setCell ⟨W3.heap.size, 3, none⟩ (.int .i64 ua.to)).setCell ⟨W3.heap.size, 4, none⟩ (.int .i64 ua.sw)) = V2 from hV.symm]
    rw [← hV] at HB6
    have HA2 : Hid (Has V2 (W3.heap.size) [.int .i64 ua.id, .int .i64 ua.y, .int .i64 ua.fr, .int .i64 ua.to, .int .i64 ua.sw] ∧ Has V2 (W3.heap.size + 1) [.int .i64 0, .int .i64 0, .int .i64 0, .int .i64 0, .int .i64 0]) := by rw [hV]; exact Lib.hid ⟨has_lineN HA.out.1 ua, has_otherN HA.out.2 (by omega) 0 [.int .i64 ua.id, .int .i64 ua.y, .int .i64 ua.fr, .int .i64 ua.to, .int .i64 ua.sw]⟩
    clear hV HA
    have e0 := HA2.out.2.at_ 0 _ rfl
    have e1 := HA2.out.2.at_ 1 _ rfl
    have e2 := HA2.out.2.at_ 2 _ rfl
    have e3 := HA2.out.2.at_ 3 _ rfl
    have e4 := HA2.out.2.at_ 4 _ rfl
    have f0 := HA2.out.2.free 0
    have f1 := HA2.out.2.free 1
    have f2 := HA2.out.2.free 2
    have f3 := HA2.out.2.free 3
    have f4 := HA2.out.2.free 4
    have HB7 := Lib.hid (setL_below [.int .i64 ub.id, .int .i64 ub.y, .int .i64 ub.fr, .int .i64 ub.to, .int .i64 ub.sw] HB6.out (show w1.heap.size ≤ W3.heap.size + 1 by have := HGE.out; omega) 0)
    obtain ⟨V3, hV⟩ : ∃ V3, V3 = setL V2 (W3.heap.size + 1) 0 [.int .i64 ub.id, .int .i64 ub.y, .int .i64 ub.fr, .int .i64 ub.to, .int .i64 ub.sw] := ⟨_, rfl⟩
    rw [← hV] at HB7
    have HA3 : Hid (Has V3 (W3.heap.size) [.int .i64 ua.id, .int .i64 ua.y, .int .i64 ua.fr, .int .i64 ua.to, .int .i64 ua.sw] ∧ Has V3 (W3.heap.size + 1) [.int .i64 ub.id, .int .i64 ub.y, .int .i64 ub.fr, .int .i64 ub.to, .int .i64 ub.sw]) := by rw [hV]; exact Lib.hid ⟨has_otherN HA2.out.1 (by omega) 0 [.int .i64 ub.id, .int .i64 ub.y, .int .i64 ub.fr, .int .i64 ub.to, .int .i64 ub.sw], has_lineN HA2.out.2 ub⟩
    have HE := Lib.hid hV
    clear hV HA2
    have HY := Lib.hid (bthen HX.out HB7.out HX.out.size)
    refine wpAnyN_end rfl (by kernel_rfl) rfl ?_
    simp only [List.drop_succ_cons, List.drop_zero]
    go_wp2_with fail
    rw [show (((((V2.setCell ⟨W3.heap.size + 1, 0, none⟩ (.int .i64 ub.id)).setCell ⟨W3.heap.size + 1, 1, none⟩ (.int .i64 ub.y)).setCell ⟨W3.heap.size + 1, 2, none⟩ (.int .i64 ub.fr)).setCell ⟨W3.heap.size + 1, 3, none⟩ (.int .i64 ub.to)).setCell ⟨W3.heap.size + 1, 4, none⟩ (.int .i64 ub.sw)) = V3 from HE.out.symm]
    clear e0 e1 e2 e3 e4 f0 f1 f2 f3 f4 HE
    obtain ⟨a0, a1, a2, a3, a4⟩ := five_at HA3.out.1
    obtain ⟨b0, b1, b2, b3, b4⟩ := five_at HA3.out.2
    obtain ⟨N, hN⟩ : ∃ N, min (ua.y + ua.sw) (ub.y + ub.sw) = N := ⟨_, rfl⟩
    obtain ⟨S, hS⟩ : ∃ S, max (ua.y - ua.sw) (ub.y - ub.sw) = S := ⟨_, rfl⟩
    obtain ⟨R, hR⟩ : ∃ R, max 0 (N - S) = R := ⟨_, rfl⟩
    have hbN : -400 ≤ N ∧ N ≤ 1400 := by omega
    have hbS : -400 ≤ S ∧ S ≤ 1400 := by omega
    have HN := Lib.hid hN
    have HSS := Lib.hid hS
    have HRR := Lib.hid hR
    have HO2 : Hid (R = ovR L a b) := by
      unfold Hid
      rw [← HR.out.1, HUA.out, HUB.out]
      unfold ovN
      rw [hN, hS, hR]
    clear hN hS hR
    have lc0 := lcell (a0)
    have lc1 := lcell (a1)
    have lc2 := lcell (a2)
    have lc3 := lcell (a3)
    have lc4 := lcell (a4)
    have lc5 := lcell (b0)
    have lc6 := lcell (b1)
    have lc7 := lcell (b2)
    have lc8 := lcell (b3)
    have lc9 := lcell (b4)
    refine region_later (W := V3) (by kernel_rfl) (by kernel_rfl) (Below.refl _ _) ?_
    repeat (go_big_quiet_step (((first | (go_at_call 90; with_reducible exact later_same (least_v _ _ N HN.out _)) | (go_at_call 97; with_reducible exact later_same (most_v _ _ S HSS.out _)) | (go_at_call 97; with_reducible exact later_same (most_v _ _ R HRR.out _))))))
    refine wpQuiet_nil ?_
    intro V4 hW1
    have HL : Hid (Below V3.heap.size V3 V4) := by obtain ⟨x, rfl⟩ := hW1; exact Lib.hid x.below
    clear hW1 lc0 lc1 lc2 lc3 lc4 lc5 lc6 lc7 lc8 lc9
    have HY2 := Lib.hid (bthen HY.out HL.out HY.out.size)
    clear a0 a1 a2 a3 a4 b0 b1 b2 b3 b4
    go_wp2_with fail
    go_ret2
    exact num_post HO2.out HR.out.2 HY2.out
  · refine wpOp_step rfl (fun K hK => ?_)
    rw [if_pos (by rfl)]
    have HB4 := Lib.hid (HL0.out.alloc HL0.out.size (.cells #[.int .i64 0, .int .i64 0, .int .i64 0, .int .i64 0, .int .i64 0] 34))
    go_simp
    refine hK _ _ ⟨⟨⟨_, HB4.out⟩, rfl⟩, ?_⟩
    clear hK K
    refine wpAnyN_one (i := 8) (by kernel_rfl) ?_
    refine wpOp_step rfl (fun K hK => ?_)
    rw [if_pos (by rfl)]
    have HB5 := Lib.hid (HB4.out.alloc HB4.out.size (.cells #[.int .i64 0, .int .i64 0, .int .i64 0, .int .i64 0, .int .i64 0] 34))
    have HV0 := Lib.hid (box2 (w := W3) (cs := #[.int .i64 0, .int .i64 0, .int .i64 0, .int .i64 0, .int .i64 0]) (ds := #[.int .i64 0, .int .i64 0, .int .i64 0, .int .i64 0, .int .i64 0]) (T := 34) (T' := 34) (Below.refl _ _))
    go_simp
    refine hK _ _ ⟨⟨⟨_, HB5.out⟩, rfl⟩, ?_⟩
    clear hK K
    obtain ⟨V, hV⟩ : ∃ V, V = (W3.alloc (.cells #[.int .i64 0, .int .i64 0, .int .i64 0, .int .i64 0, .int .i64 0] 34)).alloc (.cells #[.int .i64 0, .int .i64 0, .int .i64 0, .int .i64 0, .int .i64 0] 34) := ⟨_, rfl⟩
    rw [← hV]
    rw [← hV] at HB5 HV0
    clear hV HB4
    have HA : Hid (Has V (W3.heap.size + 1) [.int .i64 0, .int .i64 0, .int .i64 0, .int .i64 0, .int .i64 0] ∧ Has V (W3.heap.size) [.int .i64 0, .int .i64 0, .int .i64 0, .int .i64 0, .int .i64 0]) := Lib.hid ⟨HV0.out.2.2, HV0.out.2.1⟩
    have HGE : Hid (w1.heap.size ≤ W3.heap.size) := Lib.hid HL0.out.size
    have e0 := HA.out.1.at_ 0 _ rfl
    have e1 := HA.out.1.at_ 1 _ rfl
    have e2 := HA.out.1.at_ 2 _ rfl
    have e3 := HA.out.1.at_ 3 _ rfl
    have e4 := HA.out.1.at_ 4 _ rfl
    have f0 := HA.out.1.free 0
    have f1 := HA.out.1.free 1
    have f2 := HA.out.1.free 2
    have f3 := HA.out.1.free 3
    have f4 := HA.out.1.free 4
    have HB6 := Lib.hid (setL_below [.int .i64 ua.id, .int .i64 ua.y, .int .i64 ua.fr, .int .i64 ua.to, .int .i64 ua.sw] HB5.out (show w1.heap.size ≤ W3.heap.size + 1 by have := HGE.out; omega) 0)
    refine wpAnyN_one (i := 10) (by kernel_rfl) ?_
    refine wpOp_step rfl (fun K hK => ?_)
    rw [if_pos (by rfl)]
    go_simp
    refine hK _ _ ⟨⟨⟨_, HB6.out⟩, rfl⟩, ?_⟩
    clear hK K e0 e1 e2 e3 e4 f0 f1 f2 f3 f4
    obtain ⟨V2, hV⟩ : ∃ V2, V2 = setL V (W3.heap.size + 1) 0 [.int .i64 ua.id, .int .i64 ua.y, .int .i64 ua.fr, .int .i64 ua.to, .int .i64 ua.sw] := ⟨_, rfl⟩
    rw [show (((((V.setCell ⟨W3.heap.size + 1, 0, none⟩ (.int .i64 ua.id)).setCell ⟨W3.heap.size + 1, 1, none⟩ (.int .i64 ua.y)).setCell ⟨W3.heap.size + 1, 2, none⟩ (.int .i64 ua.fr)).setCell ⟨W3.heap.size + 1, 3, none⟩ (.int .i64 ua.to)).setCell ⟨W3.heap.size + 1, 4, none⟩ (.int .i64 ua.sw)) = V2 from hV.symm]
    rw [← hV] at HB6
    have HA2 : Hid (Has V2 (W3.heap.size + 1) [.int .i64 ua.id, .int .i64 ua.y, .int .i64 ua.fr, .int .i64 ua.to, .int .i64 ua.sw] ∧ Has V2 (W3.heap.size) [.int .i64 0, .int .i64 0, .int .i64 0, .int .i64 0, .int .i64 0]) := by rw [hV]; exact Lib.hid ⟨has_lineN HA.out.1 ua, has_otherN HA.out.2 (by omega) 0 [.int .i64 ua.id, .int .i64 ua.y, .int .i64 ua.fr, .int .i64 ua.to, .int .i64 ua.sw]⟩
    clear hV HA
    have e0 := HA2.out.2.at_ 0 _ rfl
    have e1 := HA2.out.2.at_ 1 _ rfl
    have e2 := HA2.out.2.at_ 2 _ rfl
    have e3 := HA2.out.2.at_ 3 _ rfl
    have e4 := HA2.out.2.at_ 4 _ rfl
    have f0 := HA2.out.2.free 0
    have f1 := HA2.out.2.free 1
    have f2 := HA2.out.2.free 2
    have f3 := HA2.out.2.free 3
    have f4 := HA2.out.2.free 4
    have HB7 := Lib.hid (setL_below [.int .i64 ub.id, .int .i64 ub.y, .int .i64 ub.fr, .int .i64 ub.to, .int .i64 ub.sw] HB6.out (show w1.heap.size ≤ W3.heap.size by have := HGE.out; omega) 0)
    obtain ⟨V3, hV⟩ : ∃ V3, V3 = setL V2 (W3.heap.size) 0 [.int .i64 ub.id, .int .i64 ub.y, .int .i64 ub.fr, .int .i64 ub.to, .int .i64 ub.sw] := ⟨_, rfl⟩
    rw [← hV] at HB7
    have HA3 : Hid (Has V3 (W3.heap.size + 1) [.int .i64 ua.id, .int .i64 ua.y, .int .i64 ua.fr, .int .i64 ua.to, .int .i64 ua.sw] ∧ Has V3 (W3.heap.size) [.int .i64 ub.id, .int .i64 ub.y, .int .i64 ub.fr, .int .i64 ub.to, .int .i64 ub.sw]) := by rw [hV]; exact Lib.hid ⟨has_otherN HA2.out.1 (by omega) 0 [.int .i64 ub.id, .int .i64 ub.y, .int .i64 ub.fr, .int .i64 ub.to, .int .i64 ub.sw], has_lineN HA2.out.2 ub⟩
    have HE := Lib.hid hV
    clear hV HA2
    have HY := Lib.hid (bthen HX.out HB7.out HX.out.size)
    refine wpAnyN_end rfl (by kernel_rfl) rfl ?_
    simp only [List.drop_succ_cons, List.drop_zero]
    go_wp2_with fail
    rw [show (((((V2.setCell ⟨W3.heap.size, 0, none⟩ (.int .i64 ub.id)).setCell ⟨W3.heap.size, 1, none⟩ (.int .i64 ub.y)).setCell ⟨W3.heap.size, 2, none⟩ (.int .i64 ub.fr)).setCell ⟨W3.heap.size, 3, none⟩ (.int .i64 ub.to)).setCell ⟨W3.heap.size, 4, none⟩ (.int .i64 ub.sw)) = V3 from HE.out.symm]
    clear e0 e1 e2 e3 e4 f0 f1 f2 f3 f4 HE
    obtain ⟨a0, a1, a2, a3, a4⟩ := five_at HA3.out.1
    obtain ⟨b0, b1, b2, b3, b4⟩ := five_at HA3.out.2
    obtain ⟨N, hN⟩ : ∃ N, min (ua.y + ua.sw) (ub.y + ub.sw) = N := ⟨_, rfl⟩
    obtain ⟨S, hS⟩ : ∃ S, max (ua.y - ua.sw) (ub.y - ub.sw) = S := ⟨_, rfl⟩
    obtain ⟨R, hR⟩ : ∃ R, max 0 (N - S) = R := ⟨_, rfl⟩
    have hbN : -400 ≤ N ∧ N ≤ 1400 := by omega
    have hbS : -400 ≤ S ∧ S ≤ 1400 := by omega
    have HN := Lib.hid hN
    have HSS := Lib.hid hS
    have HRR := Lib.hid hR
    have HO2 : Hid (R = ovR L a b) := by
      unfold Hid
      rw [← HR.out.1, HUA.out, HUB.out]
      unfold ovN
      rw [hN, hS, hR]
    clear hN hS hR
    have lc0 := lcell (a0)
    have lc1 := lcell (a1)
    have lc2 := lcell (a2)
    have lc3 := lcell (a3)
    have lc4 := lcell (a4)
    have lc5 := lcell (b0)
    have lc6 := lcell (b1)
    have lc7 := lcell (b2)
    have lc8 := lcell (b3)
    have lc9 := lcell (b4)
    refine region_later (W := V3) (by kernel_rfl) (by kernel_rfl) (Below.refl _ _) ?_
    repeat (go_big_quiet_step (((first | (go_at_call 90; with_reducible exact later_same (least_v _ _ N HN.out _)) | (go_at_call 97; with_reducible exact later_same (most_v _ _ S HSS.out _)) | (go_at_call 97; with_reducible exact later_same (most_v _ _ R HRR.out _))))))
    refine wpQuiet_nil ?_
    intro V4 hW1
    have HL : Hid (Below V3.heap.size V3 V4) := by obtain ⟨x, rfl⟩ := hW1; exact Lib.hid x.below
    clear hW1 lc0 lc1 lc2 lc3 lc4 lc5 lc6 lc7 lc8 lc9
    have HY2 := Lib.hid (bthen HY.out HL.out HY.out.size)
    clear a0 a1 a2 a3 a4 b0 b1 b2 b3 b4
    go_wp2_with fail
    go_ret2
    exact num_post HO2.out HR.out.2 HY2.out
end Go.Proofs.Ytdmnkmdlochogab
