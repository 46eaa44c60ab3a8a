/-
  Contracts of slices.IndexFunc over gauges, impl.hasGaugeNamed, impl.AreGauges, spec.l3Good, spec.AreGauges over this translation. Conditions: stated at each theorem.
-/
import Derived.Test.YtdmnkmdlochogaaGs
import Derived.Test.YtdmnkmdlochogaaGauge
namespace Go.Proofs.Ytdmnkmdlochogaa
open Go.RowKit

def nameB (s : ByteArray) (g : GG) : Bool := decide (g.nm = s)
def idB (i : Int) (g : GG) : Bool := decide (g.id = i)
theorem nameIs_any (s : ByteArray) (p : Nat) (id ze : Int) (nm : ByteArray) (A : Option Addr) (n c : Nat) (l : List (Int × Int)) (w : World) (hp : w.cell? ⟨p, 0, none⟩ = some (.string s)) :
    Calls Try.prog 165 #[.agg #[.int .i64 id, .string nm, .int .i64 ze, .slice A n c], .pointer (some ⟨p, 0, none⟩)] w fun e w' => e = .returned (.bool (nameB s ⟨id, nm, ze, l⟩)) ∧ Below w.heap.size w w' := by
  have hp' := cell_next ((Below.refl w.heap.size w).alloc (Nat.le_refl _) (.cells #[.int .i64 id, .string nm, .int .i64 ze, .slice A n c] 26)) hp
  clear hp
  by_cases h : nm = s
  · have HR : Hid (nameB s ⟨id, nm, ze, l⟩ = true) := decide_eq_true h
    subst h
    go_enter Try.func165, Try.ntmps165
    go_wp2_with fail
    go_ret
    exact ⟨ret_bool HR.out.symm, (Below.refl _ _).alloc (Nat.le_refl _) _⟩
  · have HR : Hid (nameB s ⟨id, nm, ze, l⟩ = false) := decide_eq_false h
    have hne := ba_ne h
    clear h
    go_enter Try.func165, Try.ntmps165
    go_wp2_with fail
    go_ret
    exact ⟨ret_bool HR.out.symm, (Below.refl _ _).alloc (Nat.le_refl _) _⟩
theorem idIs_any (i : Int) (p : Nat) (id ze : Int) (nm : ByteArray) (A : Option Addr) (n c : Nat) (l : List (Int × Int)) (w : World) (hp : w.cell? ⟨p, 0, none⟩ = some (.int .i64 i)) :
    Calls Try.prog 157 #[.agg #[.int .i64 id, .string nm, .int .i64 ze, .slice A n c], .pointer (some ⟨p, 0, none⟩)] w fun e w' => e = .returned (.bool (idB i ⟨id, nm, ze, l⟩)) ∧ Below w.heap.size w w' := by
  have hp' := cell_next ((Below.refl w.heap.size w).alloc (Nat.le_refl _) (.cells #[.int .i64 id, .string nm, .int .i64 ze, .slice A n c] 26)) hp
  clear hp
  by_cases h : id = i
  · have HR : Hid (idB i ⟨id, nm, ze, l⟩ = true) := decide_eq_true h
    subst h
    go_enter Try.func157, Try.ntmps157
    go_wp2_with fail
    go_ret
    exact ⟨ret_bool HR.out.symm, (Below.refl _ _).alloc (Nat.le_refl _) _⟩
  · have HR : Hid (idB i ⟨id, nm, ze, l⟩ = false) := decide_eq_false h
    have hne : (id == i) = false := beq_eq_false_iff_ne.2 h
    clear h
    go_enter Try.func157, Try.ntmps157
    go_wp2_with fail
    go_ret
    exact ⟨ret_bool HR.out.symm, (Below.refl _ _).alloc (Nat.le_refl _) _⟩
/-- The place of the first gauge of L that P takes, or -1. -/
def firstI (P : GG → Bool) (L : List GG) : Int := if L.findIdx P < L.length then (L.findIdx P : Int) else -1
theorem findG_is {L : List GG} {P : GG → Bool} {i : Nat} (hi : i ≤ L.length) (h1 : ∀ p (h : p < L.length), p < i → P L[p] = false) (h2 : ∀ h : i < L.length, P L[i] = true) : L.findIdx P = i := by
  rcases Nat.lt_or_ge i L.length with h | h
  · rw [List.findIdx_eq h]
    exact ⟨h2 h, fun j hj => h1 j (by omega) hj⟩
  · obtain rfl : i = L.length := by omega
    rw [List.findIdx_eq_length]
    intro x hx
    obtain ⟨k, hk, rfl⟩ := List.getElem_of_mem hx
    exact h1 k hk hk
set_option maxRecDepth 100000 in
set_option maxHeartbeats 1600000 in
theorem indexName_any (P : GG → Bool) (q : Value) (A : Option Addr) (n c : Nat) (L : List GG) (w : World) (hs : Gauges w w.heap.size A n L) (hm : n ≤ maxLen)
    (hf : ∀ (W : World) (id ze : Int) (nm : ByteArray) (l : List (Int × Int)) (A' : Option Addr) (n' c' : Nat), Below w.heap.size w W → Calls Try.prog 165 #[.agg #[.int .i64 id, .string nm, .int .i64 ze, .slice A' n' c'], q] W fun e w' => e = .returned (.bool (P ⟨id, nm, ze, l⟩)) ∧ Below W.heap.size W w') :
    Calls Try.prog 156 #[.slice A n c, .func (.func 165) #[] #[q]] w fun e w' => e = .returned (.int .i64 (firstI P L)) ∧ Below w.heap.size w w' := by
  obtain rfl := hs.1
  have HS := Lib.hid hs
  have HF := Lib.hid hf
  clear hs hf
  unfold maxLen at hm
  go_enter Try.func156, Try.ntmps156
  go_wp2_with fail
  go_loopw [8] (fun i wr => ∃ k : Nat, k ≤ L.length ∧ i = .int .i64 k ∧ Hid ((∀ p (h : p < L.length), p < k → P L[p] = false) ∧ Below w.heap.size w wr)) (fun i _ => L.length - (intOf i).toNat)
  case atStart => exact ⟨0, Nat.zero_le _, rfl, Lib.hid ⟨fun p h h' => absurd h' (by omega), Below.refl _ _⟩⟩
  case round =>
    obtain ⟨k, hk, rfl, hR⟩ := hrel
    by_cases hlt : k < L.length
    · obtain ⟨b, o, id, nm, ze, l, A', c', rfl, hb, hL, c0, c1, c2, c3, hsp, hl, hn⟩ := (gauges_at HS.out hR.out.2).2 k hlt
      have HK := Lib.hid (List.getElem?_eq_some_iff.1 hL)
      clear hL hsp
      rcases hp : P ⟨id, nm, ze, l⟩ with _ | _
      · have HP := Lib.hid hp
        have HN : Hid (∀ p (h : p < L.length), p < k + 1 → P L[p] = false) := Lib.hid fun p h hpk => by
          rcases Nat.lt_or_ge p k with h1 | h1
          · exact hR.out.1 p h h1
          · obtain rfl : p = k := by omega
            obtain ⟨_, e⟩ := HK.out
            rw [e]; exact HP.out
        clear hp
        go_wp2_with fail
        refine (HF.out _ id ze nm l A' l.length c' hR.out.2).mono ?_
        rintro e w1 ⟨rfl, hb'⟩
        rw [HP.out]
        have HB := Lib.hid (And.intro HN.out (bthen hR.out.2 hb' hR.out.2.size))
        clear hb' c0 c1 c2 c3
        go_wp2_with fail
        go_roundw
        case rel => exact ⟨k + 1, by omega, by go_num, HB⟩
        case measure => simp [intOf]; omega
      · have HP := Lib.hid hp
        have HR : Hid (firstI P L = k) := by
          have e : L.findIdx P = k := findG_is hk (fun p h h' => hR.out.1 p h h') (fun h => by obtain ⟨_, e⟩ := HK.out; rw [e]; exact hp)
          unfold Hid firstI
          rw [e, if_pos hlt]
        clear hp
        go_wp2_with fail
        refine (HF.out _ id ze nm l A' l.length c' hR.out.2).mono ?_
        rintro e w1 ⟨rfl, hb'⟩
        rw [HP.out]
        have HB := Lib.hid (bthen hR.out.2 hb' hR.out.2.size)
        clear hb' c0 c1 c2 c3
        go_wp2_with fail
        go_ret
        exact ⟨ret_int HR.out.symm, HB.out⟩
    · have HR : Hid (firstI P L = -1) := by
        have e : L.findIdx P = L.length := findG_is (Nat.le_refl _) (fun p h _ => hR.out.1 p h (by omega)) (fun h => absurd h (by omega))
        unfold Hid firstI
        rw [e, if_neg (by omega)]
      go_wp2_with fail
      go_ret
      exact ⟨ret_int HR.out.symm, hR.out.2⟩
set_option maxRecDepth 100000 in
set_option maxHeartbeats 1600000 in
theorem indexId_any (P : GG → Bool) (q : Value) (A : Option Addr) (n c : Nat) (L : List GG) (w : World) (hs : Gauges w w.heap.size A n L) (hm : n ≤ maxLen)
    (hf : ∀ (W : World) (id ze : Int) (nm : ByteArray) (l : List (Int × Int)) (A' : Option Addr) (n' c' : Nat), Below w.heap.size w W → Calls Try.prog 157 #[.agg #[.int .i64 id, .string nm, .int .i64 ze, .slice A' n' c'], q] W fun e w' => e = .returned (.bool (P ⟨id, nm, ze, l⟩)) ∧ Below W.heap.size W w') :
    Calls Try.prog 156 #[.slice A n c, .func (.func 157) #[] #[q]] w fun e w' => e = .returned (.int .i64 (firstI P L)) ∧ Below w.heap.size w w' := by
  obtain rfl := hs.1
  have HS := Lib.hid hs
  have HF := Lib.hid hf
  clear hs hf
  unfold maxLen at hm
  go_enter Try.func156, Try.ntmps156
  go_wp2_with fail
  go_loopw [8] (fun i wr => ∃ k : Nat, k ≤ L.length ∧ i = .int .i64 k ∧ Hid ((∀ p (h : p < L.length), p < k → P L[p] = false) ∧ Below w.heap.size w wr)) (fun i _ => L.length - (intOf i).toNat)
  case atStart => exact ⟨0, Nat.zero_le _, rfl, Lib.hid ⟨fun p h h' => absurd h' (by omega), Below.refl _ _⟩⟩
  case round =>
    obtain ⟨k, hk, rfl, hR⟩ := hrel
    by_cases hlt : k < L.length
    · obtain ⟨b, o, id, nm, ze, l, A', c', rfl, hb, hL, c0, c1, c2, c3, hsp, hl, hn⟩ := (gauges_at HS.out hR.out.2).2 k hlt
      have HK := Lib.hid (List.getElem?_eq_some_iff.1 hL)
      clear hL hsp
      rcases hp : P ⟨id, nm, ze, l⟩ with _ | _
      · have HP := Lib.hid hp
        have HN : Hid (∀ p (h : p < L.length), p < k + 1 → P L[p] = false) := Lib.hid fun p h hpk => by
          rcases Nat.lt_or_ge p k with h1 | h1
          · exact hR.out.1 p h h1
          · obtain rfl : p = k := by omega
            obtain ⟨_, e⟩ := HK.out
            rw [e]; exact HP.out
        clear hp
        go_wp2_with fail
        refine (HF.out _ id ze nm l A' l.length c' hR.out.2).mono ?_
        rintro e w1 ⟨rfl, hb'⟩
        rw [HP.out]
        have HB := Lib.hid (And.intro HN.out (bthen hR.out.2 hb' hR.out.2.size))
        clear hb' c0 c1 c2 c3
        go_wp2_with fail
        go_roundw
        case rel => exact ⟨k + 1, by omega, by go_num, HB⟩
        case measure => simp [intOf]; omega
      · have HP := Lib.hid hp
        have HR : Hid (firstI P L = k) := by
          have e : L.findIdx P = k := findG_is hk (fun p h h' => hR.out.1 p h h') (fun h => by obtain ⟨_, e⟩ := HK.out; rw [e]; exact hp)
          unfold Hid firstI
          rw [e, if_pos hlt]
        clear hp
        go_wp2_with fail
        refine (HF.out _ id ze nm l A' l.length c' hR.out.2).mono ?_
        rintro e w1 ⟨rfl, hb'⟩
        rw [HP.out]
        have HB := Lib.hid (bthen hR.out.2 hb' hR.out.2.size)
        clear hb' c0 c1 c2 c3
        go_wp2_with fail
        go_ret
        exact ⟨ret_int HR.out.symm, HB.out⟩
    · have HR : Hid (firstI P L = -1) := by
        have e : L.findIdx P = L.length := findG_is (Nat.le_refl _) (fun p h _ => hR.out.1 p h (by omega)) (fun h => absurd h (by omega))
        unfold Hid firstI
        rw [e, if_neg (by omega)]
      go_wp2_with fail
      go_ret
      exact ⟨ret_int HR.out.symm, hR.out.2⟩

/-! ### impl.AreGauges -/
def hasB (s : ByteArray) (L : List GG) : Bool := decide (0 ≤ firstI (nameB s) L)
theorem contains_any (s : ByteArray) (p : Nat) (A : Option Addr) (n c : Nat) (L : List GG) (w : World) (hs : Gauges w w.heap.size A n L) (hm : n ≤ maxLen) (hp : w.cell? ⟨p, 0, none⟩ = some (.string s)) :
    Calls Try.prog 164 #[.slice A n c, .func (.func 165) #[] #[.pointer (some ⟨p, 0, none⟩)]] w fun e w' => e = .returned (.bool (hasB s L)) ∧ Below w.heap.size w w' := by
  have H := Lib.hid (indexName_any (nameB s) (.pointer (some ⟨p, 0, none⟩)) A n c L w hs hm (fun W id ze nm l A' n' c' hb => nameIs_any s p id ze nm A' n' c' l W (cell_next hb hp)))
  clear hs hp
  go_enter Try.func164, Try.ntmps164
  go_wp2_with fail
  refine H.out.mono ?_
  rintro e w1 ⟨rfl, hb⟩
  have HT := Lib.hid hb
  clear hb
  go_wp2_with fail
  go_ret
  exact ⟨ret_bool rfl, HT.out⟩
theorem hasNamed_any (s : ByteArray) (A : Option Addr) (n c : Nat) (L : List GG) (w : World) (hs : Gauges w w.heap.size A n L) (hm : n ≤ maxLen) :
    Calls Try.prog 99 #[.slice A n c, .string s] w fun e w' => e = .returned (.bool (hasB s L)) ∧ Below w.heap.size w w' := by
  have HX := Lib.hid (box1 (cs := #[.string s]) (T := 9) (Below.refl _ _) (w := w))
  have HS := Lib.hid (gauges_at hs HX.out.1)
  have hc := HX.out.2.at_ 0 _ rfl
  have HC := Lib.hid hc
  clear hs hc
  go_enter Try.func99, Try.ntmps99
  go_wp2_with fail
  refine (contains_any s _ A n c L _ HS.out hm HC.out).mono ?_
  rintro e w1 ⟨rfl, hb⟩
  have HT := Lib.hid (bthen HX.out.1 hb HX.out.1.size)
  clear hb
  go_wp2_with fail
  go_ret
  exact ⟨rfl, HT.out⟩
theorem hasNamed_v (s : ByteArray) (A : Option Addr) (n c : Nat) (L : List GG) (v : Bool) (h : hasB s L = v) (w : World) (hs : Gauges w w.heap.size A n L) (hm : n ≤ maxLen) :
    Calls Try.prog 99 #[.slice A n c, .string s] w fun e w' => e = .returned (.bool v) ∧ Below w.heap.size w w' := h ▸ hasNamed_any s A n c L w hs hm

theorem Gauges.take {w : World} {B n : Nat} {A : Option Addr} {L : List GG} (h : Gauges w B A n L) {k : Nat} (hk : k ≤ n) : Gauges w B A k (L.take k) :=
  ⟨by have := h.1; simp; omega, fun j hj => by
    obtain ⟨b, o, id, nm, ze, l, A', c, hA, hlt, hL, r⟩ := h.2 j (by omega)
    exact ⟨b, o, id, nm, ze, l, A', c, hA, hlt, by rw [List.getElem?_take, if_pos hj]; exact hL, r⟩⟩
def gOf (L : List GG) (k : Nat) : GG := L.getD k ⟨0, ⟨#[]⟩, 0, []⟩
theorem gOf_at {L : List GG} {k : Nat} {g : GG} (h : L[k]? = some g) : gOf L k = g := by unfold gOf; rw [List.getD_eq_getElem?_getD, h]; rfl
def gB (g : GG) : Bool := gaugeB g.id g.nm g.ze g.l
def stepG (L : List GG) (k : Nat) : Bool := gB (gOf L k) && (k == 0 || decide ((gOf L (k - 1)).id < (gOf L k).id)) && !hasB (gOf L k).nm (L.take k)
def okG (L : List GG) (k : Nat) : Bool := (List.range k).all (stepG L)
def areB (L : List GG) : Bool := decide (L.length ≤ 6) && okG L L.length
theorem okG_succ (L : List GG) (k : Nat) : okG L (k + 1) = (okG L k && stepG L k) := by
  unfold okG
  rw [List.range_succ, List.all_append]
  simp
theorem okG_bad {L : List GG} {k n : Nat} (h : k < n) (hb : stepG L k = false) : okG L n = false := by
  unfold okG
  rw [List.all_eq_false]
  exact ⟨k, by simpa using h, by simpa using hb⟩
theorem areB_long {L : List GG} (h : ¬ L.length ≤ 6) : areB L = false := by unfold areB; rw [decide_eq_false h]; rfl
theorem areB_bad {L : List GG} (h : okG L L.length = false) : areB L = false := by unfold areB; rw [h, Bool.and_false]
theorem areB_good {L : List GG} (h : okG L L.length = true) (hl : L.length ≤ 6) : areB L = true := by unfold areB; rw [h, decide_eq_true hl]; rfl
theorem step_invalid {L : List GG} {k : Nat} {id ze : Int} {nm : ByteArray} {l : List (Int × Int)} (h : L[k]? = some ⟨id, nm, ze, l⟩) (hb : gaugeB id nm ze l = false) : stepG L k = false := by
  unfold stepG gB; rw [gOf_at h]; dsimp only; rw [hb]; rfl
theorem step_named {L : List GG} {k : Nat} {id ze : Int} {nm : ByteArray} {l : List (Int × Int)} (h : L[k]? = some ⟨id, nm, ze, l⟩) (hb : hasB nm (L.take k) = true) : stepG L k = false := by
  unfold stepG; rw [gOf_at h]; dsimp only; rw [hb]; simp
theorem step_order {L : List GG} {k : Nat} {id ze : Int} {nm : ByteArray} {l : List (Int × Int)} {g' : GG} (h : L[k + 1]? = some ⟨id, nm, ze, l⟩) (h' : L[k]? = some g') (hb : ¬ g'.id < id) : stepG L (k + 1) = false := by
  unfold stepG; rw [gOf_at h, Nat.add_sub_cancel, gOf_at h']; dsimp only; rw [decide_eq_false hb]; simp
theorem step_fine0 {L : List GG} {id ze : Int} {nm : ByteArray} {l : List (Int × Int)} (h : L[0]? = some ⟨id, nm, ze, l⟩) (hb : gaugeB id nm ze l = true) (hn : hasB nm (L.take 0) = false) : stepG L 0 = true := by
  unfold stepG gB; rw [gOf_at h]; dsimp only; rw [hb, hn]; rfl
theorem step_fine {L : List GG} {k : Nat} {id ze : Int} {nm : ByteArray} {l : List (Int × Int)} {g' : GG} (h : L[k + 1]? = some ⟨id, nm, ze, l⟩) (h' : L[k]? = some g') (hb : gaugeB id nm ze l = true) (ho : g'.id < id) (hn : hasB nm (L.take (k + 1)) = false) : stepG L (k + 1) = true := by
  unfold stepG gB; rw [gOf_at h, Nat.add_sub_cancel, gOf_at h']; dsimp only; rw [hb, hn, decide_eq_true ho]; simp
theorem has_nil (s : ByteArray) : hasB s [] = false := by unfold hasB firstI; simp
set_option maxRecDepth 20000 in
set_option maxHeartbeats 3200000 in
theorem areG_impl (A : Option Addr) (n c : Nat) (L : List GG) (w : World) (hs : Gauges w w.heap.size A n L) (hm : n ≤ maxLen) (hcap : n ≤ c) :
    Calls Try.prog 29 #[.slice A n c] w fun e w' => e = .returned (.bool (areB L)) ∧ Below w.heap.size w w' := by
  obtain rfl := hs.1
  have HS := Lib.hid hs
  clear hs
  unfold maxLen at hm
  by_cases h6 : (6 : Int) < L.length
  · have HR := Lib.hid (areB_long (L := L) (by omega))
    go_enter Try.func29, Try.ntmps29
    go_wp2_with fail
    go_ret
    exact ⟨ret_bool HR.out.symm, Below.refl _ _⟩
  go_enter Try.func29, Try.ntmps29
  go_wp2_with fail
  go_loopw [10] (fun i wr => ∃ k : Nat, k ≤ L.length ∧ i = .int .i64 k ∧ Hid (okG L k = true) ∧ Hid (Below w.heap.size w wr)) (fun i _ => L.length - (intOf i).toNat)
  case atStart => exact ⟨0, Nat.zero_le _, rfl, by simp [Hid, okG], Lib.hid (Below.refl _ _)⟩
  case round =>
    obtain ⟨k, hk, rfl, hA, hB⟩ := hrel
    by_cases hlt : k < L.length
    · obtain ⟨b, o, id, nm, ze, l, A', c', rfl, hbl, hL, c0, c1, c2, c3, hsp, hl, hn⟩ := (gauges_at HS.out hB.out).2 k hlt
      have HK := Lib.hid hL
      obtain ⟨W0, hW0⟩ : ∃ W0, W0 = wr.alloc (.cells #[.int .i64 id, .string nm, .int .i64 ze, .slice A' l.length c'] 26) := ⟨_, rfl⟩
      have HW : Hid (Below wr.heap.size wr W0 ∧ Has W0 wr.heap.size [.int .i64 id, .string nm, .int .i64 ze, .slice A' l.length c']) := by rw [hW0]; exact box1 (Below.refl _ _)
      have HB0 := Lib.hid (bthen hB.out HW.out.1 hB.out.size)
      have HSP := Lib.hid (spots_more hsp HW.out.1)
      have HGT := Lib.hid (gauges_at ((gauges_at HS.out hB.out).take (Nat.le_of_lt hlt)) HW.out.1)
      have a0 := HW.out.2.at_ 0 _ rfl
      have a1 := HW.out.2.at_ 1 _ rfl
      have a2 := HW.out.2.at_ 2 _ rfl
      have a3 := HW.out.2.at_ 3 _ rfl
      have HE := Lib.hid hW0
      clear hW0 hL hsp
      go_wp2_with fail
      rw [← HE.out]
      clear c0 c1 c2 c3
      rcases hv : gaugeB id nm ze l with _ | _
      · have HV := Lib.hid hv
        have HNM := Lib.hid (has_nil nm)
        have HR := Lib.hid (areB_bad (okG_bad hlt (step_invalid HK.out hv)))
        clear hv
        have lc0 := lcell (a0)
        have lc1 := lcell (a1)
        have lc2 := lcell (a2)
        have lc3 := lcell (a3)
        refine region_later (W := W0) (by kernel_rfl) (by kernel_rfl) (Below.refl _ _) ?_
        repeat (go_big_quiet_step (((go_at_call 84; exact later_call (isGauge_v _ _ _ _ _ _ l _ HV.out _ (spots_more HSP.out (Later.below _)) hl hn)))))
        refine wpQuiet_nil ?_
        intro W1 hW1
        have HL : Hid (Below W0.heap.size W0 W1) := by obtain ⟨x, rfl⟩ := hW1; exact Lib.hid x.below
        clear hW1 lc0 lc1 lc2 lc3
        have HT := Lib.hid (bthen HB0.out HL.out HB0.out.size)
        go_wp2_with fail
        go_ret
        exact ⟨ret_bool HR.out.symm, HT.out⟩
      have HV := Lib.hid hv
      clear hv
      rcases k with _ | j
      · have HNM : Hid (hasB nm (L.take 0) = false) := has_nil nm
        have HR : Hid (okG L (0 + 1) = true) := by unfold Hid; rw [okG_succ, hA.out, step_fine0 HK.out HV.out HNM.out]; rfl
        have lc0 := lcell (a0)
        have lc1 := lcell (a1)
        have lc2 := lcell (a2)
        have lc3 := lcell (a3)
        refine region_later (W := W0) (by kernel_rfl) (by kernel_rfl) (Below.refl _ _) ?_
        repeat (go_big_quiet_step (((first | (go_at_call 84; exact later_call (isGauge_v _ _ _ _ _ _ l _ HV.out _ (spots_more HSP.out (Later.below _)) hl hn)) | (go_at_call 99; exact later_call (hasNamed_v nm _ _ _ (L.take 0) _ HNM.out _ (gauges_at HGT.out (Later.below _)) (by unfold maxLen; omega)))))))
        refine wpQuiet_nil ?_
        intro W1 hW1
        have HL : Hid (Below W0.heap.size W0 W1) := by obtain ⟨x, rfl⟩ := hW1; exact Lib.hid x.below
        clear hW1 lc0 lc1 lc2 lc3
        have HT := Lib.hid (bthen HB0.out HL.out HB0.out.size)
        go_wp2_with fail
        go_roundw
        case rel => exact ⟨1, by omega, by go_num, HR, HT⟩
        case measure => simp [intOf]; omega
      · obtain ⟨b', o', id', nm', ze', l', A2, c2, hA', hb', hL', d0, d1, d2, d3, _⟩ := (gauges_at HS.out hB.out).2 j (by omega)
        obtain ⟨rfl, rfl⟩ : b = b' ∧ o = o' := by injection hA' with h; injection h with h h'; exact ⟨h, h'⟩
        have e0 := cell_next HW.out.1 d0
        have HK' := Lib.hid hL'
        clear hA' hL' d0 d1 d2 d3
        by_cases hx : id ≤ id'
        · have HR := Lib.hid (areB_bad (okG_bad hlt (step_order HK.out HK'.out (by dsimp only; omega))))
          have hd : decide (id ≤ id') = true := decide_eq_true hx
          have lc0 := lcell (a0)
          have lc1 := lcell (a1)
          have lc2 := lcell (a2)
          have lc3 := lcell (a3)
          have lc4 := lcell (e0)
          refine region_later (W := W0) (by kernel_rfl) (by kernel_rfl) (Below.refl _ _) ?_
          repeat (go_big_quiet_step (((go_at_call 84; exact later_call (isGauge_v _ _ _ _ _ _ l _ HV.out _ (spots_more HSP.out (Later.below _)) hl hn)))))
          refine wpQuiet_nil ?_
          intro W1 hW1
          have HL : Hid (Below W0.heap.size W0 W1) := by obtain ⟨x, rfl⟩ := hW1; exact Lib.hid x.below
          clear hW1 lc0 lc1 lc2 lc3 lc4
          have HT := Lib.hid (bthen HB0.out HL.out HB0.out.size)
          go_wp2_with fail
          go_ret
          exact ⟨ret_bool HR.out.symm, HT.out⟩
        have hd : decide (id ≤ id') = false := decide_eq_false hx
        rcases hnm : hasB nm (L.take (j + 1)) with _ | _
        · have HNM := Lib.hid hnm
          have HR : Hid (okG L (j + 1 + 1) = true) := by unfold Hid; rw [okG_succ, hA.out, step_fine HK.out HK'.out HV.out (by dsimp only; omega) hnm]; rfl
          clear hnm
          have lc0 := lcell (a0)
          have lc1 := lcell (a1)
          have lc2 := lcell (a2)
          have lc3 := lcell (a3)
          have lc4 := lcell (e0)
          refine region_later (W := W0) (by kernel_rfl) (by kernel_rfl) (Below.refl _ _) ?_
          repeat (go_big_quiet_step (((first | (go_at_call 84; exact later_call (isGauge_v _ _ _ _ _ _ l _ HV.out _ (spots_more HSP.out (Later.below _)) hl hn)) | (go_at_call 99; exact later_call (hasNamed_v nm _ _ _ (L.take (j + 1)) _ HNM.out _ (gauges_at HGT.out (Later.below _)) (by unfold maxLen; omega)))))))
          refine wpQuiet_nil ?_
          intro W1 hW1
          have HL : Hid (Below W0.heap.size W0 W1) := by obtain ⟨x, rfl⟩ := hW1; exact Lib.hid x.below
          clear hW1 lc0 lc1 lc2 lc3 lc4
          have HT := Lib.hid (bthen HB0.out HL.out HB0.out.size)
          go_wp2_with fail
          go_roundw
          case rel => exact ⟨j + 1 + 1, by omega, by go_num, HR, HT⟩
          case measure => simp [intOf]; omega
        · have HNM := Lib.hid hnm
          have HR := Lib.hid (areB_bad (okG_bad hlt (step_named HK.out hnm)))
          clear hnm
          have lc0 := lcell (a0)
          have lc1 := lcell (a1)
          have lc2 := lcell (a2)
          have lc3 := lcell (a3)
          have lc4 := lcell (e0)
          refine region_later (W := W0) (by kernel_rfl) (by kernel_rfl) (Below.refl _ _) ?_
          repeat (go_big_quiet_step (((first | (go_at_call 84; exact later_call (isGauge_v _ _ _ _ _ _ l _ HV.out _ (spots_more HSP.out (Later.below _)) hl hn)) | (go_at_call 99; exact later_call (hasNamed_v nm _ _ _ (L.take (j + 1)) _ HNM.out _ (gauges_at HGT.out (Later.below _)) (by unfold maxLen; omega)))))))
          refine wpQuiet_nil ?_
          intro W1 hW1
          have HL : Hid (Below W0.heap.size W0 W1) := by obtain ⟨x, rfl⟩ := hW1; exact Lib.hid x.below
          clear hW1 lc0 lc1 lc2 lc3 lc4
          have HT := Lib.hid (bthen HB0.out HL.out HB0.out.size)
          go_wp2_with fail
          go_ret
          exact ⟨ret_bool HR.out.symm, HT.out⟩
    · obtain rfl : k = L.length := by omega
      have HR : Hid (areB L = true) := areB_good hA.out (by omega)
      go_wp2_with fail
      go_ret
      exact ⟨ret_bool HR.out.symm, hB.out⟩
end Go.Proofs.Ytdmnkmdlochogaa
