/-
  Rows of casts: contracts of slices.IndexFunc, slices.ContainsFunc over casts, impl.hasCastOf, impl.AreCasts, spec.l7Good, spec.AreCasts over this translation. Conditions: stated at each theorem.
-/
import Derived.Test.YtdmnkmdlochogabZv
import Derived.Test.YtdmnkmdlochogabZo
namespace Go.Proofs.Ytdmnkmdlochogab
open Go.RowKit
set_option linter.unusedVariables false

theorem Casts.take {w : World} {B n k : Nat} {A : Option Addr} {L : List KC} (h : Casts w B A n L) (hk : k ≤ n) : Casts w B A k (L.take k) :=
  ⟨by rw [List.length_take, h.1]; omega, fun j hj => by
    obtain ⟨b, o, id, tm, x, y, l, A', c, hA, hlt, hL, r⟩ := h.2 j (by omega)
    exact ⟨b, o, id, tm, x, y, l, A', c, hA, hlt, by rw [List.getElem?_take, if_pos hj]; exact hL, r⟩⟩
def idK (i : Int) (v : KC) : Bool := decide (v.id = i)
theorem idK_any (i : Int) (p : Nat) (id tm x y : Int) (l : List (Int × Int)) (A : Option Addr) (n c : Nat) (w : World) (hp : w.cell? ⟨p, 0, none⟩ = some (.int .i64 i)) :
    Calls Try.prog 180 #[.agg #[.int .i64 id, .int .i64 tm, .int .i64 x, .int .i64 y, .slice A n c], .pointer (some ⟨p, 0, none⟩)] w fun e w' => e = .returned (.bool (idK i ⟨id, tm, x, y, l⟩)) ∧ Below w.heap.size w w' := by
  have hp' := cell_next ((Below.refl w.heap.size w).alloc (Nat.le_refl _) (.cells #[.int .i64 id, .int .i64 tm, .int .i64 x, .int .i64 y, .slice A n c] 64)) hp
  clear hp
  by_cases h : id = i
  · have HR : Hid (idK i ⟨id, tm, x, y, l⟩ = true) := decide_eq_true h
    subst h
    go_enter Try.func180, Try.ntmps180
    go_wp2_with fail
    go_ret
    exact ⟨ret_bool (by rw [HR.out]; try simp), (Below.refl _ _).alloc (Nat.le_refl _) _⟩
  · have HR : Hid (idK i ⟨id, tm, x, y, l⟩ = false) := decide_eq_false h
    have hne : (id == i) = false := beq_eq_false_iff_ne.2 h
    clear h
    go_enter Try.func180, Try.ntmps180
    go_wp2_with fail
    go_ret
    exact ⟨ret_bool (by rw [HR.out]; try simp [hne]), (Below.refl _ _).alloc (Nat.le_refl _) _⟩
/-- The place of the first cast of L that P takes, or -1. -/
def firstK (P : KC → Bool) (L : List KC) : Int := if L.findIdx P < L.length then (L.findIdx P : Int) else -1
theorem findK_is {L : List KC} {P : KC → Bool} {i : Nat} (hi : i ≤ L.length) (h1 : ∀ p (h : p < L.length), p < i → P L[p] = false) (h2 : ∀ h : i < L.length, P L[i] = true) : L.findIdx P = i := by
  rcases Nat.lt_or_ge i L.length with h | h
  · rw [List.findIdx_eq h]
    exact ⟨h2 h, fun j hj => h1 j (by omega) hj⟩
  · obtain rfl : i = L.length := by omega
    rw [List.findIdx_eq_length]
    intro x hx
    obtain ⟨k, hk, rfl⟩ := List.getElem_of_mem hx
    exact h1 k hk hk
set_option maxRecDepth 100000 in
set_option maxHeartbeats 1600000 in
theorem indexK_any (P : KC → Bool) (q : Value) (A : Option Addr) (n c : Nat) (L : List KC) (w : World) (hs : Casts w w.heap.size A n L) (hm : n ≤ maxLen)
    (hf : ∀ (W : World) (id tm x y : Int) (l : List (Int × Int)) (A' : Option Addr) (n' c' : Nat), Below w.heap.size w W → Calls Try.prog 180 #[.agg #[.int .i64 id, .int .i64 tm, .int .i64 x, .int .i64 y, .slice A' n' c'], q] W fun e w' => e = .returned (.bool (P ⟨id, tm, x, y, l⟩)) ∧ Below W.heap.size W w') :
    Calls Try.prog 188 #[.slice A n c, .func (.func 180) #[] #[q]] w fun e w' => e = .returned (.int .i64 (firstK P L)) ∧ Below w.heap.size w w' := by
  obtain rfl := hs.1
  have HS := Lib.hid hs
  have HF := Lib.hid hf
  clear hs hf
  unfold maxLen at hm
  go_enter Try.func188, Try.ntmps188
  go_wp2_with fail
  go_loopw [8] (fun i wr => ∃ k : Nat, k ≤ L.length ∧ i = .int .i64 k ∧ Hid ((∀ p (h : p < L.length), p < k → P L[p] = false) ∧ Below w.heap.size w wr)) (fun i _ => L.length - (intOf i).toNat)
  case atStart => exact ⟨0, Nat.zero_le _, rfl, Lib.hid ⟨fun p h h' => absurd h' (by omega), Below.refl _ _⟩⟩
  case round =>
    obtain ⟨k, hk, rfl, hR⟩ := hrel
    by_cases hlt : k < L.length
    · obtain ⟨b, o, id, tm, x, y, l, A', c', rfl, hb, hL, c0, c1, c2, c3, c4, hsp, hl⟩ := (casts_at HS.out hR.out.2).2 k hlt
      have HK := Lib.hid (List.getElem?_eq_some_iff.1 hL)
      clear hL hsp
      rcases hp : P ⟨id, tm, x, y, l⟩ with _ | _
      · have HP := Lib.hid hp
        have HN : Hid (∀ p (h : p < L.length), p < k + 1 → P L[p] = false) := Lib.hid fun p h hpk => by
          rcases Nat.lt_or_ge p k with h1 | h1
          · exact hR.out.1 p h h1
          · obtain rfl : p = k := by omega
            obtain ⟨_, e⟩ := HK.out
            rw [e]; exact HP.out
        clear hp
        go_wp2_with fail
        refine (HF.out _ id tm x y l A' l.length c' hR.out.2).mono ?_
        rintro e w1 ⟨rfl, hb'⟩
        rw [HP.out]
        have HB := Lib.hid (And.intro HN.out (bthen hR.out.2 hb' hR.out.2.size))
        clear hb' c0 c1 c2 c3 c4
        go_wp2_with fail
        go_roundw
        case rel => exact ⟨k + 1, by omega, by go_num, HB⟩
        case measure => simp [intOf]; omega
      · have HP := Lib.hid hp
        have HR : Hid (firstK P L = k) := by
          have e : L.findIdx P = k := findK_is hk (fun p h h' => hR.out.1 p h h') (fun h => by obtain ⟨_, e⟩ := HK.out; rw [e]; exact hp)
          unfold Hid firstK
          rw [e, if_pos hlt]
        clear hp
        go_wp2_with fail
        refine (HF.out _ id tm x y l A' l.length c' hR.out.2).mono ?_
        rintro e w1 ⟨rfl, hb'⟩
        rw [HP.out]
        have HB := Lib.hid (bthen hR.out.2 hb' hR.out.2.size)
        clear hb' c0 c1 c2 c3 c4
        go_wp2_with fail
        go_ret
        exact ⟨ret_int HR.out.symm, HB.out⟩
    · have HR : Hid (firstK P L = -1) := by
        have e : L.findIdx P = L.length := findK_is (Nat.le_refl _) (fun p h _ => hR.out.1 p h (by omega)) (fun h => absurd h (by omega))
        unfold Hid firstK
        rw [e, if_neg (by omega)]
      go_wp2_with fail
      go_ret
      exact ⟨ret_int HR.out.symm, hR.out.2⟩
def hasK (i : Int) (L : List KC) : Bool := decide (0 ≤ firstK (idK i) L)
theorem containsK_any (i : Int) (p : Nat) (A : Option Addr) (n c : Nat) (L : List KC) (w : World) (hs : Casts w w.heap.size A n L) (hm : n ≤ maxLen) (hp : w.cell? ⟨p, 0, none⟩ = some (.int .i64 i)) :
    Calls Try.prog 179 #[.slice A n c, .func (.func 180) #[] #[.pointer (some ⟨p, 0, none⟩)]] w fun e w' => e = .returned (.bool (hasK i L)) ∧ Below w.heap.size w w' := by
  have H := Lib.hid (indexK_any (idK i) (.pointer (some ⟨p, 0, none⟩)) A n c L w hs hm (fun W id tm x y l A' n' c' hb => idK_any i p id tm x y l A' n' c' W (cell_next hb hp)))
  clear hs hp
  go_enter Try.func179, Try.ntmps179
  go_wp2_with fail
  refine H.out.mono ?_
  rintro e w1 ⟨rfl, hb⟩
  have HT := Lib.hid hb
  clear hb
  go_wp2_with fail
  go_ret
  exact ⟨ret_bool rfl, HT.out⟩
theorem hasK_v (i : Int) (A : Option Addr) (n c : Nat) (L : List KC) (v : Bool) (h : hasK i L = v) (w : World) (hs : Casts w w.heap.size A n L) (hm : n ≤ maxLen) :
    Calls Try.prog 148 #[.slice A n c, .int .i64 i] w fun e w' => e = .returned (.bool v) ∧ Below w.heap.size w w' := by
  subst h
  have HX := Lib.hid (box1 (cs := #[.int .i64 i]) (T := 3) (Below.refl _ _) (w := w))
  have HS := Lib.hid (casts_at hs HX.out.1)
  have hc := HX.out.2.at_ 0 _ rfl
  have HC := Lib.hid hc
  clear hs hc
  go_enter Try.func148, Try.ntmps148
  go_wp2_with fail
  refine (containsK_any i _ A n c L _ HS.out hm HC.out).mono ?_
  rintro e w1 ⟨rfl, hb⟩
  have HT := Lib.hid (bthen HX.out.1 hb HX.out.1.size)
  clear hb
  go_wp2_with fail
  go_ret
  exact ⟨rfl, HT.out⟩
/-! ### Which Ids there are -/
theorem firstK_iff (P : KC → Bool) (L : List KC) : (0 ≤ firstK P L) ↔ ∃ x ∈ L, P x = true := by
  unfold firstK
  constructor
  · intro h
    split at h
    · rename_i h1; exact List.findIdx_lt_length.1 h1
    · omega
  · intro h
    rw [if_pos (List.findIdx_lt_length.2 h)]
    omega
theorem hasK_none {L : List KC} {k : Nat} {i : Int} (h : ∀ j, j < k → ∀ v, L[j]? = some v → v.id ≠ i) : hasK i (L.take k) = false := by
  refine decide_eq_false fun h1 => ?_
  obtain ⟨x, hx, hp⟩ := (firstK_iff _ _).1 h1
  obtain ⟨j, hj⟩ := List.mem_iff_getElem?.1 hx
  rw [List.getElem?_take] at hj
  split at hj
  · rename_i hjk; exact h j hjk x hj (of_decide_eq_true hp)
  · cases hj
theorem hasK_ids {L : List KC} {k : Nat} {i : Int} (h : hasK i (L.take k) = false) {j : Nat} (hj : j < k) (hl : j < L.length) : (kcAt L j).id ≠ i := fun he => by
  have hv : L[j]? = some (kcAt L j) := by unfold kcAt; rw [List.getD_eq_getElem?_getD, List.getElem?_eq_getElem hl]; rfl
  have : hasK i (L.take k) = true := decide_eq_true ((firstK_iff _ _).2 ⟨kcAt L j, List.mem_of_getElem? (i := j) (by rw [List.getElem?_take, if_pos hj]; exact hv), decide_eq_true he⟩)
  rw [h] at this; cases this
theorem hasK_yes {L : List KC} {k : Nat} {i : Int} (h : hasK i (L.take k) = true) : ∃ j, j < k ∧ j < L.length ∧ (kcAt L j).id = i := by
  obtain ⟨x, hx, hp⟩ := (firstK_iff _ _).1 (of_decide_eq_true h)
  obtain ⟨j, hj⟩ := List.mem_iff_getElem?.1 hx
  rw [List.getElem?_take] at hj
  split at hj
  · rename_i hjk
    exact ⟨j, hjk, (List.getElem?_eq_some_iff.1 hj).1, by rw [kcAt_at hj]; exact of_decide_eq_true hp⟩
  · cases hj
theorem ck_one {L : List KC} {k : Nat} {v : KC} (hv : L[k]? = some v) (h : castB v = false) : castsB L = false := castsB_bad (cgoodK_bad (List.getElem?_eq_some_iff.1 hv).1 (cstep_one (by rw [kcAt_at hv]; exact h)))
theorem ck_time {L : List KC} {k : Nat} {v v' : KC} (hv : L[k + 1]? = some v) (hv' : L[k]? = some v') (h : ¬ v'.tm < v.tm) : castsB L = false := castsB_bad (cgoodK_bad (List.getElem?_eq_some_iff.1 hv).1 (cstep_time (by rw [kcAt_at hv, kcAt_at hv']; exact h)))
theorem ck_id {L : List KC} {k j : Nat} {v v' : KC} (hj : j < k) (hv : L[k]? = some v) (hv' : L[j]? = some v') (h : v'.id = v.id) : castsB L = false := castsB_bad (cgoodK_bad (List.getElem?_eq_some_iff.1 hv).1 (cstep_id hj (by rw [kcAt_at hv, kcAt_at hv']; exact h)))
theorem ck_has {L : List KC} {k : Nat} {v : KC} (hv : L[k]? = some v) (h : hasK v.id (L.take k) = true) : castsB L = false := by
  obtain ⟨j, hj, hjl, he⟩ := hasK_yes h
  exact castsB_bad (cgoodK_bad (List.getElem?_eq_some_iff.1 hv).1 (cstep_id hj (by rw [kcAt_at hv]; exact he)))
theorem ck_yes0 {L : List KC} {v : KC} (hv : L[0]? = some v) (h : castB v = true) (hA : cgoodK L 0 = true) : cgoodK L (0 + 1) = true := by
  rw [cgoodK_succ, hA, cstep_yes (by rw [kcAt_at hv]; exact h) (fun h => by omega) (fun j hj => by omega)]; rfl
theorem ck_yes {L : List KC} {k : Nat} {v v' : KC} (hv : L[k + 1]? = some v) (hv' : L[k]? = some v') (h : castB v = true) (ht : v'.tm < v.tm) (hid : ∀ j, j < k + 1 → (kcAt L j).id ≠ v.id) (hA : cgoodK L (k + 1) = true) : cgoodK L (k + 1 + 1) = true := by
  rw [cgoodK_succ, hA, cstep_yes (by rw [kcAt_at hv]; exact h) (fun _ => by rw [Nat.add_sub_cancel, kcAt_at hv, kcAt_at hv']; exact ht) (fun j hj => by rw [kcAt_at hv]; exact hid j hj)]; rfl
set_option maxRecDepth 20000 in
set_option maxHeartbeats 3200000 in
theorem areK_impl (A : Option Addr) (n c : Nat) (L : List KC) (w : World) (hs : Casts w w.heap.size A n L) (hm : n ≤ maxLen) (hcap : n ≤ c) :
    Calls Try.prog 72 #[.slice A n c] w fun e w' => e = .returned (.bool (castsB L)) ∧ Below w.heap.size w w' := by
  obtain rfl := hs.1
  have HS := Lib.hid hs
  clear hs
  unfold maxLen at hm
  by_cases h6 : (6 : Int) < L.length
  · have HR := Lib.hid (castsB_long (L := L) (by omega))
    go_enter Try.func72, Try.ntmps72
    go_wp2_with fail
    go_ret
    exact ⟨ret_bool HR.out.symm, Below.refl _ _⟩
  go_enter Try.func72, Try.ntmps72
  go_wp2_with fail
  go_loopw [10] (fun i wr => ∃ k : Nat, k ≤ L.length ∧ i = .int .i64 k ∧ Hid (cgoodK L k = true) ∧ Hid (Below w.heap.size w wr)) (fun i _ => L.length - (intOf i).toNat)
  case atStart => exact ⟨0, Nat.zero_le _, rfl, by simp [Hid, cgoodK], Lib.hid (Below.refl _ _)⟩
  case round =>
    obtain ⟨k, hk, rfl, hA, hB⟩ := hrel
    by_cases hlt : k < L.length
    · obtain ⟨b, o, id, tm, x, y, l, A', c', rfl, hb, hL, c0, c1, c2, c3, c4, hsp, hl⟩ := (casts_at HS.out hB.out).2 k hlt
      have HK := Lib.hid hL
      obtain ⟨W0, hW0⟩ : ∃ W0, W0 = wr.alloc (.cells #[.int .i64 id, .int .i64 tm, .int .i64 x, .int .i64 y, .slice A' l.length c'] 64) := ⟨_, rfl⟩
      have HW : Hid (Below wr.heap.size wr W0 ∧ Has W0 wr.heap.size [.int .i64 id, .int .i64 tm, .int .i64 x, .int .i64 y, .slice A' l.length c']) := by rw [hW0]; exact box1 (Below.refl _ _)
      have HB0 := Lib.hid (bthen hB.out HW.out.1 hB.out.size)
      have HGT := Lib.hid (casts_at ((casts_at HS.out hB.out).take (Nat.le_of_lt hlt)) HW.out.1)
      have HSP := Lib.hid (spots_at hsp HW.out.1)
      have a0 := HW.out.2.at_ 0 _ rfl
      have a1 := HW.out.2.at_ 1 _ rfl
      have a2 := HW.out.2.at_ 2 _ rfl
      have a3 := HW.out.2.at_ 3 _ rfl
      have a4 := HW.out.2.at_ 4 _ rfl
      have HE := Lib.hid hW0
      clear hW0 hL hsp
      go_wp2_with fail
      rw [← HE.out]
      clear c0 c1 c2 c3 c4
      rcases hv : castB ⟨id, tm, x, y, l⟩ with _ | _
      · have HV := Lib.hid hv
        have HR := Lib.hid (ck_one HK.out hv)
        clear hv
        have lc0 := lcell (a0)
        have lc1 := lcell (a1)
        have lc2 := lcell (a2)
        have lc3 := lcell (a3)
        have lc4 := lcell (a4)
        refine region_later (W := W0) (by kernel_rfl) (by kernel_rfl) (Below.refl _ _) ?_
        repeat (go_big_quiet_step (((go_at_call 126; go_loud (exact later_call (isC_v _ _ _ _ _ _ _ l _ HV.out _ (spots_more HSP.out (Later.below _)) hl))))))
        refine wpQuiet_nil ?_
        intro W1 hW1
        have HL : Hid (Below W0.heap.size W0 W1) := by obtain ⟨x, rfl⟩ := hW1; exact Lib.hid x.below
        clear hW1 lc0 lc1 lc2 lc3 lc4
        have HT := Lib.hid (bthen HB0.out HL.out HB0.out.size)
        go_wp2_with fail
        go_ret
        exact ⟨ret_bool HR.out.symm, HT.out⟩
      have HV := Lib.hid hv
      clear hv
      rcases k with _ | j
      · have HNM : Hid (hasK id (L.take 0) = false) := hasK_none (fun j hj => absurd hj (by omega))
        have HR : Hid (cgoodK L (0 + 1) = true) := ck_yes0 HK.out HV.out hA.out
        have lc0 := lcell (a0)
        have lc1 := lcell (a1)
        have lc2 := lcell (a2)
        have lc3 := lcell (a3)
        have lc4 := lcell (a4)
        refine region_later (W := W0) (by kernel_rfl) (by kernel_rfl) (Below.refl _ _) ?_
        repeat (go_big_quiet_step (((first | (go_at_call 126; exact later_call (isC_v _ _ _ _ _ _ _ l _ HV.out _ (spots_more HSP.out (Later.below _)) hl)) | (go_at_call 148; exact later_call (hasK_v id _ _ _ (L.take 0) _ HNM.out _ (casts_at HGT.out (Later.below _)) (by unfold maxLen; omega)))))))
        refine wpQuiet_nil ?_
        intro W1 hW1
        have HL : Hid (Below W0.heap.size W0 W1) := by obtain ⟨x, rfl⟩ := hW1; exact Lib.hid x.below
        clear hW1 lc0 lc1 lc2 lc3 lc4
        have HT := Lib.hid (bthen HB0.out HL.out HB0.out.size)
        go_wp2_with fail
        go_roundw
        case rel => exact ⟨1, by omega, by go_num, HR, HT⟩
        case measure => simp [intOf]; omega
      · obtain ⟨b', o', id', tm', x', y', l', A2, c2', hA', hb', hL', d0, d1, d2, d3, d4, hsp', hl'⟩ := (casts_at HS.out hB.out).2 j (by omega)
        obtain ⟨rfl, rfl⟩ : b = b' ∧ o = o' := by injection hA' with h; injection h with h h'; exact ⟨h, h'⟩
        have e1 := cell_next HW.out.1 d1
        have HK' := Lib.hid hL'
        clear hA' hL' d0 d1 d2 d3 d4 hsp'
        by_cases hx : tm ≤ tm'
        · have HR := Lib.hid (ck_time HK.out HK'.out (by simp only; omega))
          have hd : decide (tm ≤ tm') = true := decide_eq_true hx
          have lc0 := lcell (a0)
          have lc1 := lcell (a1)
          have lc2 := lcell (a2)
          have lc3 := lcell (a3)
          have lc4 := lcell (a4)
          have lc5 := lcell (e1)
          refine region_later (W := W0) (by kernel_rfl) (by kernel_rfl) (Below.refl _ _) ?_
          repeat (go_big_quiet_step (((go_at_call 126; go_loud (exact later_call (isC_v _ _ _ _ _ _ _ l _ HV.out _ (spots_more HSP.out (Later.below _)) hl))))))
          refine wpQuiet_nil ?_
          intro W1 hW1
          have HL : Hid (Below W0.heap.size W0 W1) := by obtain ⟨x, rfl⟩ := hW1; exact Lib.hid x.below
          clear hW1 lc0 lc1 lc2 lc3 lc4 lc5
          have HT := Lib.hid (bthen HB0.out HL.out HB0.out.size)
          go_wp2_with fail
          go_ret
          exact ⟨ret_bool HR.out.symm, HT.out⟩
        have hd : decide (tm ≤ tm') = false := decide_eq_false hx
        rcases hnm : hasK id (L.take (j + 1)) with _ | _
        · have HNM := Lib.hid hnm
          have HR : Hid (cgoodK L (j + 1 + 1) = true) := ck_yes HK.out HK'.out HV.out (by simp only; omega) (fun p hp => hasK_ids hnm hp (by omega)) hA.out
          clear hnm
          have lc0 := lcell (a0)
          have lc1 := lcell (a1)
          have lc2 := lcell (a2)
          have lc3 := lcell (a3)
          have lc4 := lcell (a4)
          have lc5 := lcell (e1)
          refine region_later (W := W0) (by kernel_rfl) (by kernel_rfl) (Below.refl _ _) ?_
          repeat (go_big_quiet_step (((first | (go_at_call 126; exact later_call (isC_v _ _ _ _ _ _ _ l _ HV.out _ (spots_more HSP.out (Later.below _)) hl)) | (go_at_call 148; exact later_call (hasK_v id _ _ _ (L.take (j + 1)) _ HNM.out _ (casts_at HGT.out (Later.below _)) (by unfold maxLen; omega)))))))
          refine wpQuiet_nil ?_
          intro W1 hW1
          have HL : Hid (Below W0.heap.size W0 W1) := by obtain ⟨x, rfl⟩ := hW1; exact Lib.hid x.below
          clear hW1 lc0 lc1 lc2 lc3 lc4 lc5
          have HT := Lib.hid (bthen HB0.out HL.out HB0.out.size)
          go_wp2_with fail
          go_roundw
          case rel => exact ⟨j + 1 + 1, by omega, by go_num, HR, HT⟩
          case measure => simp [intOf]; omega
        · have HNM := Lib.hid hnm
          have HR := Lib.hid (ck_has HK.out hnm)
          clear hnm
          have lc0 := lcell (a0)
          have lc1 := lcell (a1)
          have lc2 := lcell (a2)
          have lc3 := lcell (a3)
          have lc4 := lcell (a4)
          have lc5 := lcell (e1)
          refine region_later (W := W0) (by kernel_rfl) (by kernel_rfl) (Below.refl _ _) ?_
          repeat (go_big_quiet_step (((first | (go_at_call 126; exact later_call (isC_v _ _ _ _ _ _ _ l _ HV.out _ (spots_more HSP.out (Later.below _)) hl)) | (go_at_call 148; exact later_call (hasK_v id _ _ _ (L.take (j + 1)) _ HNM.out _ (casts_at HGT.out (Later.below _)) (by unfold maxLen; omega)))))))
          refine wpQuiet_nil ?_
          intro W1 hW1
          have HL : Hid (Below W0.heap.size W0 W1) := by obtain ⟨x, rfl⟩ := hW1; exact Lib.hid x.below
          clear hW1 lc0 lc1 lc2 lc3 lc4 lc5
          have HT := Lib.hid (bthen HB0.out HL.out HB0.out.size)
          go_wp2_with fail
          go_ret
          exact ⟨ret_bool HR.out.symm, HT.out⟩
    · obtain rfl : k = L.length := by omega
      have HR : Hid (castsB L = true) := (castsB_good hA.out).trans (decide_eq_true (by omega))
      go_wp2_with fail
      go_ret
      exact ⟨ret_bool HR.out.symm, hB.out⟩
theorem areK_v (A : Option Addr) (n c : Nat) (L : List KC) (v : Bool) (h : castsB L = v) (w : World) (hs : Casts w w.heap.size A n L) (hm : n ≤ maxLen) (hcap : n ≤ c) :
    Calls Try.prog 72 #[.slice A n c] w fun e w' => e = .returned (.bool v) ∧ Below w.heap.size w w' := h ▸ areK_impl A n c L w hs hm hcap
set_option maxRecDepth 20000 in
set_option maxHeartbeats 3200000 in
theorem goodK_spec (A : Option Addr) (n c : Nat) (L : List KC) (w : World) (hs : Casts w w.heap.size A n L) (hm : n ≤ maxLen) :
    Calls Try.prog 142 #[.slice A n c] w fun e w' => e = .returned (.bool (castsB L)) ∧ Below w.heap.size w w' := by
  obtain rfl := hs.1
  have HS := Lib.hid hs
  clear hs
  unfold maxLen at hm
  go_enter Try.func142, Try.ntmps142
  go_wp2_with fail
  go_loopw [3] (fun i wr => ∃ k : Nat, k ≤ L.length ∧ i = .int .i64 k ∧ Hid (cgoodK L k = true) ∧ Hid (Below w.heap.size w wr)) (fun i _ => L.length - (intOf i).toNat)
  case atStart => exact ⟨0, Nat.zero_le _, rfl, by simp [Hid, cgoodK], Lib.hid (Below.refl _ _)⟩
  case round =>
    obtain ⟨k, hk, rfl, hA, hB⟩ := hrel
    by_cases hlt : k < L.length
    · obtain ⟨b, o, id, tm, x, y, l, A', c', rfl, hb, hL, c0, c1, c2, c3, c4, hsp, hl⟩ := (casts_at HS.out hB.out).2 k hlt
      have HK := Lib.hid hL
      have HSP := Lib.hid hsp
      clear hL hsp
      obtain ⟨W0, rfl⟩ : ∃ W : World, W = wr := ⟨_, rfl⟩
      go_wp2_with fail
      rcases hv : castB ⟨id, tm, x, y, l⟩ with _ | _
      · have HV := Lib.hid hv
        have HR := Lib.hid (ck_one HK.out hv)
        clear hv
        have lc0 := lcell (c0)
        have lc1 := lcell (c1)
        have lc2 := lcell (c2)
        have lc3 := lcell (c3)
        have lc4 := lcell (c4)
        refine region_later (W := W0) (by kernel_rfl) (by kernel_rfl) (Below.refl _ _) ?_
        repeat (go_big_quiet_step (((go_at_call 129; go_loud (exact later_call (one_v _ _ _ _ _ _ _ l _ HV.out _ (spots_more HSP.out (Later.below _)) hl))))))
        refine wpQuiet_nil ?_
        intro W1 hW1
        have HL : Hid (Below W0.heap.size W0 W1) := by obtain ⟨x, rfl⟩ := hW1; exact Lib.hid x.below
        clear hW1 lc0 lc1 lc2 lc3 lc4
        have HT := Lib.hid (bthen hB.out HL.out hB.out.size)
        go_wp2_with fail
        go_ret
        exact ⟨ret_bool HR.out.symm, HT.out⟩
      have HV := Lib.hid hv
      clear hv
      rcases k with _ | j
      · simp only [Nat.zero_mul, Nat.add_zero] at c0 c1 c2 c3 c4
        have HR : Hid (cgoodK L (0 + 1) = true) := ck_yes0 HK.out HV.out hA.out
        have lc0 := lcell (c0)
        have lc1 := lcell (c1)
        have lc2 := lcell (c2)
        have lc3 := lcell (c3)
        have lc4 := lcell (c4)
        refine region_later (W := W0) (by kernel_rfl) (by kernel_rfl) (Below.refl _ _) ?_
        repeat (go_big_quiet_step (((go_at_call 129; go_loud (exact later_call (one_v _ _ _ _ _ _ _ l _ HV.out _ (spots_more HSP.out (Later.below _)) hl))))))
        refine wpQuiet_nil ?_
        intro W1 hW1
        have HL : Hid (Below W0.heap.size W0 W1) := by obtain ⟨x, rfl⟩ := hW1; exact Lib.hid x.below
        clear hW1 lc0 lc1 lc2 lc3 lc4
        have HT := Lib.hid (bthen hB.out HL.out hB.out.size)
        clear c0 c1 c2 c3 c4
        go_wp2_with fail
        go_loopw [4] (fun i wq => i = .int .i64 0 ∧ Hid (Below w.heap.size w wq)) (fun i _ => 1 - (intOf i).toNat)
        case atStart => exact ⟨rfl, HT⟩
        case round =>
          obtain ⟨rfl, hB2⟩ := hrel
          go_wp2_with fail
          go_roundw
          case rel => exact ⟨1, by omega, by go_num, HR, hB2⟩
          case measure => simp [intOf]; omega
      · obtain ⟨b', o', id', tm', x', y', l', A2, c2', hA', hb', hL', d0, d1, d2, d3, d4, hsp', hl'⟩ := (casts_at HS.out hB.out).2 j (by omega)
        obtain ⟨rfl, rfl⟩ : b = b' ∧ o = o' := by injection hA' with h; injection h with h h'; exact ⟨h, h'⟩
        have HK' := Lib.hid hL'
        clear hA' hL' d0 d2 d3 d4 hsp'
        by_cases hx : tm ≤ tm'
        · have HR := Lib.hid (ck_time HK.out HK'.out (by simp only; omega))
          have hd : decide (tm' ≥ tm) = true := decide_eq_true hx
          have lc0 := lcell (c0)
          have lc1 := lcell (c1)
          have lc2 := lcell (c2)
          have lc3 := lcell (c3)
          have lc4 := lcell (c4)
          have lc5 := lcell (d1)
          refine region_later (W := W0) (by kernel_rfl) (by kernel_rfl) (Below.refl _ _) ?_
          repeat (go_big_quiet_step (((go_at_call 129; go_loud (exact later_call (one_v _ _ _ _ _ _ _ l _ HV.out _ (spots_more HSP.out (Later.below _)) hl))))))
          refine wpQuiet_nil ?_
          intro W1 hW1
          have HL : Hid (Below W0.heap.size W0 W1) := by obtain ⟨x, rfl⟩ := hW1; exact Lib.hid x.below
          clear hW1 lc0 lc1 lc2 lc3 lc4 lc5
          have HT := Lib.hid (bthen hB.out HL.out hB.out.size)
          go_wp2_with fail
          go_ret
          exact ⟨ret_bool HR.out.symm, HT.out⟩
        have hd : decide (tm' ≥ tm) = false := decide_eq_false hx
        have lc0 := lcell (c0)
        have lc1 := lcell (c1)
        have lc2 := lcell (c2)
        have lc3 := lcell (c3)
        have lc4 := lcell (c4)
        have lc5 := lcell (d1)
        refine region_later (W := W0) (by kernel_rfl) (by kernel_rfl) (Below.refl _ _) ?_
        repeat (go_big_quiet_step (((go_at_call 129; go_loud (exact later_call (one_v _ _ _ _ _ _ _ l _ HV.out _ (spots_more HSP.out (Later.below _)) hl))))))
        refine wpQuiet_nil ?_
        intro W1 hW1
        have HL : Hid (Below W0.heap.size W0 W1) := by obtain ⟨x, rfl⟩ := hW1; exact Lib.hid x.below
        clear hW1 lc0 lc1 lc2 lc3 lc4 lc5
        have HT := Lib.hid (bthen hB.out HL.out hB.out.size)
        clear c0 c1 c2 c3 c4 d1
        go_wp2_with fail
        go_loopw [4] (fun i wq => ∃ q : Nat, q ≤ j + 1 ∧ i = .int .i64 q ∧ Hid (∀ p, p < q → (kcAt L p).id ≠ id) ∧ Hid (Below w.heap.size w wq)) (fun i _ => j + 1 - (intOf i).toNat)
        case atStart => exact ⟨0, Nat.zero_le _, rfl, Lib.hid fun p hp => absurd hp (by omega), HT⟩
        case round =>
          obtain ⟨q, hq, rfl, hN, hB2⟩ := hrel
          by_cases hqlt : q < j + 1
          · obtain ⟨b3, o3, id3, tm3, x3, y3, l3, A3, c3', hA3, hb3, hL3, p0, p1, p2, p3, p4, hsp3, hl3⟩ := (casts_at HS.out hB2.out).2 q (by omega)
            obtain ⟨rfl, rfl⟩ : b = b3 ∧ o = o3 := by injection hA3 with h; injection h with h h'; exact ⟨h, h'⟩
            obtain ⟨b4, o4, id4, tm4, x4, y4, l4, A4, c4', hA4, hb4, hL4, q0, q1, q2, q3, q4, hsp4, hl4⟩ := (casts_at HS.out hB2.out).2 (j + 1) hlt
            obtain ⟨rfl, rfl⟩ : b = b4 ∧ o = o4 := by injection hA4 with h; injection h with h h'; exact ⟨h, h'⟩
            have e4 : (⟨id, tm, x, y, l⟩ : KC) = ⟨id4, tm4, x4, y4, l4⟩ := Option.some.inj (HK.out.symm.trans hL4)
            obtain rfl : id = id4 := congrArg KC.id e4
            have HK3 := Lib.hid hL3
            clear hA3 hL3 p1 p2 p3 p4 hA4 hL4 q1 q2 q3 q4 hsp3 hsp4 e4
            obtain ⟨W2, rfl⟩ : ∃ W : World, W = wr := ⟨_, rfl⟩
            by_cases hne : id3 = id
            · have HR := Lib.hid (ck_id hqlt HK.out HK3.out hne)
              have hd2 : (id3 == id) = true := beq_iff_eq.2 hne
              subst hne
              go_wp2_with fail
              have lc0 := lcell (p0)
              have lc1 := lcell (q0)
              refine region_later (W := W2) (by kernel_rfl) (by kernel_rfl) (Below.refl _ _) ?_
              repeat (go_big_quiet_step (fail))
              refine wpQuiet_nil ?_
              intro W3 hW1
              have HL : Hid (Below W2.heap.size W2 W3) := by obtain ⟨x, rfl⟩ := hW1; exact Lib.hid x.below
              clear hW1 lc0 lc1
              have HT2 := Lib.hid (bthen hB2.out HL.out hB2.out.size)
              clear p0 q0
              go_wp2_with fail
              go_ret
              exact ⟨ret_bool HR.out.symm, HT2.out⟩
            · have hd2 : (id3 == id) = false := beq_eq_false_iff_ne.2 hne
              have HN2 : Hid (∀ p, p < q + 1 → (kcAt L p).id ≠ id) := Lib.hid fun p hp => by
                rcases Nat.lt_or_ge p q with h | h
                · exact hN.out p h
                · obtain rfl : p = q := by omega
                  rw [kcAt_at HK3.out]
                  exact hne
              go_wp2_with fail
              have lc0 := lcell (p0)
              have lc1 := lcell (q0)
              refine region_later (W := W2) (by kernel_rfl) (by kernel_rfl) (Below.refl _ _) ?_
              repeat (go_big_quiet_step (fail))
              refine wpQuiet_nil ?_
              intro W3 hW1
              have HL : Hid (Below W2.heap.size W2 W3) := by obtain ⟨x, rfl⟩ := hW1; exact Lib.hid x.below
              clear hW1 lc0 lc1
              have HT2 := Lib.hid (bthen hB2.out HL.out hB2.out.size)
              clear p0 q0
              go_wp2_with fail
              go_roundw
              case rel => exact ⟨q + 1, by omega, by go_num, HN2, HT2⟩
              case measure => simp [intOf]; omega
          · obtain rfl : q = j + 1 := by omega
            have HR : Hid (cgoodK L (j + 1 + 1) = true) := ck_yes HK.out HK'.out HV.out (by simp only; omega) hN.out hA.out
            go_wp2_with fail
            go_roundw
            case rel => exact ⟨j + 1 + 1, by omega, by go_num, HR, hB2⟩
            case measure => simp [intOf]; omega
    · obtain rfl : k = L.length := by omega
      by_cases h6 : L.length ≤ 6
      · have HR : Hid (castsB L = true) := (castsB_good hA.out).trans (decide_eq_true h6)
        go_wp2_with fail
        go_ret
        exact ⟨ret_bool (by first | exact HR.out.symm | exact (decide_eq_true (by omega)).trans HR.out.symm), hB.out⟩
      · have HR : Hid (castsB L = false) := castsB_long h6
        go_wp2_with fail
        go_ret
        exact ⟨ret_bool (by first | exact HR.out.symm | exact (decide_eq_false (by omega)).trans HR.out.symm), hB.out⟩
theorem areK_spec (A : Option Addr) (n c : Nat) (L : List KC) (w : World) (hs : Casts w w.heap.size A n L) (hm : n ≤ maxLen) :
    Calls Try.prog 73 #[.slice A n c] w fun e w' => e = .returned (.bool (castsB L)) ∧ Below w.heap.size w w' := by
  have H := Lib.hid (goodK_spec A n c L w hs hm)
  clear hs
  go_enter Try.func73, Try.ntmps73
  go_wp2_with fail
  refine H.out.mono ?_
  rintro e w1 ⟨rfl, hb⟩
  have HT := Lib.hid hb
  clear hb
  go_wp2_with fail
  go_ret
  exact ⟨rfl, HT.out⟩
theorem goodK_v (A : Option Addr) (n c : Nat) (L : List KC) (v : Bool) (h : castsB L = v) (w : World) (hs : Casts w w.heap.size A n L) (hm : n ≤ maxLen) :
    Calls Try.prog 142 #[.slice A n c] w fun e w' => e = .returned (.bool v) ∧ Below w.heap.size w w' := h ▸ goodK_spec A n c L w hs hm
end Go.Proofs.Ytdmnkmdlochogab
