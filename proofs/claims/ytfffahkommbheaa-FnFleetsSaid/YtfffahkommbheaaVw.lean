/-
  Rows of craft: contracts of slices.IndexFunc, slices.ContainsFunc over craft, impl.hasCraftNamed, impl.AreCraft over this translation. Conditions: stated at each theorem.
-/
import Derived.Test.YtfffahkommbheaaVl
import Derived.Test.YtfffahkommbheaaVv
namespace Go.Proofs.Ytfffahkommbheaa
open Go.RowKit

def nameC (s : ByteArray) (v : CC) : Bool := decide (v.nm = s)
theorem nameC_any (s : ByteArray) (p : Nat) (v : CC) (w : World) (hp : w.cell? ⟨p, 0, none⟩ = some (.string s)) :
    Calls Try.prog 134 #[.agg #[.int .i64 v.id, .string v.nm, .int .i64 v.dr, .int .i64 v.ah, .int .i64 v.be, .int .i64 v.sp, .int .i64 v.fu], .pointer (some ⟨p, 0, none⟩)] w fun e w' => e = .returned (.bool (nameC s v)) ∧ Below w.heap.size w w' := by
  have hp' := cell_next ((Below.refl w.heap.size w).alloc (Nat.le_refl _) (.cells #[.int .i64 v.id, .string v.nm, .int .i64 v.dr, .int .i64 v.ah, .int .i64 v.be, .int .i64 v.sp, .int .i64 v.fu] 31)) hp
  clear hp
  by_cases h : v.nm = s
  · have HR : Hid (nameC s v = true) := decide_eq_true h
    subst h
    go_enter Try.func134, Try.ntmps134
    go_wp2_with fail
    go_ret
    exact ⟨ret_bool HR.out.symm, (Below.refl _ _).alloc (Nat.le_refl _) _⟩
  · have HR : Hid (nameC s v = false) := decide_eq_false h
    have hne := ba_ne h
    clear h
    go_enter Try.func134, Try.ntmps134
    go_wp2_with fail
    go_ret
    exact ⟨ret_bool HR.out.symm, (Below.refl _ _).alloc (Nat.le_refl _) _⟩
/-- The place of the first craft of L that P takes, or -1. -/
def firstC (P : CC → Bool) (L : List CC) : Int := if L.findIdx P < L.length then (L.findIdx P : Int) else -1
theorem findC_is {L : List CC} {P : CC → Bool} {i : Nat} (hi : i ≤ L.length) (h1 : ∀ p (h : p < L.length), p < i → P L[p] = false) (h2 : ∀ h : i < L.length, P L[i] = true) : L.findIdx P = i := by
  rcases Nat.lt_or_ge i L.length with h | h
  · rw [List.findIdx_eq h]
    exact ⟨h2 h, fun j hj => h1 j (by omega) hj⟩
  · obtain rfl : i = L.length := by omega
    rw [List.findIdx_eq_length]
    intro x hx
    obtain ⟨k, hk, rfl⟩ := List.getElem_of_mem hx
    exact h1 k hk hk
set_option maxRecDepth 100000 in
set_option maxHeartbeats 1600000 in
theorem indexC_any (P : CC → Bool) (q : Value) (A : Option Addr) (n c : Nat) (L : List CC) (w : World) (hs : Crafts w w.heap.size A n L) (hm : n ≤ maxLen)
    (hf : ∀ (W : World) (v : CC), Below w.heap.size w W → Calls Try.prog 134 #[.agg #[.int .i64 v.id, .string v.nm, .int .i64 v.dr, .int .i64 v.ah, .int .i64 v.be, .int .i64 v.sp, .int .i64 v.fu], q] W fun e w' => e = .returned (.bool (P v)) ∧ Below W.heap.size W w') :
    Calls Try.prog 148 #[.slice A n c, .func (.func 134) #[] #[q]] w fun e w' => e = .returned (.int .i64 (firstC P L)) ∧ Below w.heap.size w w' := by
  obtain rfl := hs.1
  have HS := Lib.hid hs
  have HF := Lib.hid hf
  clear hs hf
  unfold maxLen at hm
  go_enter Try.func148, Try.ntmps148
  go_wp2_with fail
  go_loopw [8] (fun i wr => ∃ k : Nat, k ≤ L.length ∧ i = .int .i64 k ∧ Hid ((∀ p (h : p < L.length), p < k → P L[p] = false) ∧ Below w.heap.size w wr)) (fun i _ => L.length - (intOf i).toNat)
  case atStart => exact ⟨0, Nat.zero_le _, rfl, Lib.hid ⟨fun p h h' => absurd h' (by omega), Below.refl _ _⟩⟩
  case round =>
    obtain ⟨k, hk, rfl, hR⟩ := hrel
    by_cases hlt : k < L.length
    · obtain ⟨b, o, v, rfl, hb, hL, hn, c0, c1, c2, c3, c4, c5, c6⟩ := (crafts_at HS.out hR.out.2).2 k hlt
      have HK := Lib.hid (List.getElem?_eq_some_iff.1 hL)
      clear hL
      rcases hp : P v with _ | _
      · have HP := Lib.hid hp
        have HN : Hid (∀ p (h : p < L.length), p < k + 1 → P L[p] = false) := Lib.hid fun p h hpk => by
          rcases Nat.lt_or_ge p k with h1 | h1
          · exact hR.out.1 p h h1
          · obtain rfl : p = k := by omega
            obtain ⟨_, e⟩ := HK.out
            rw [e]; exact HP.out
        clear hp
        go_wp2_with fail
        refine (HF.out _ v hR.out.2).mono ?_
        rintro e w1 ⟨rfl, hb'⟩
        rw [HP.out]
        have HB := Lib.hid (And.intro HN.out (bthen hR.out.2 hb' hR.out.2.size))
        clear hb' c0 c1 c2 c3 c4 c5 c6
        go_wp2_with fail
        go_roundw
        case rel => exact ⟨k + 1, by omega, by go_num, HB⟩
        case measure => simp [intOf]; omega
      · have HP := Lib.hid hp
        have HR : Hid (firstC P L = k) := by
          have e : L.findIdx P = k := findC_is hk (fun p h h' => hR.out.1 p h h') (fun h => by obtain ⟨_, e⟩ := HK.out; rw [e]; exact hp)
          unfold Hid firstC
          rw [e, if_pos hlt]
        clear hp
        go_wp2_with fail
        refine (HF.out _ v hR.out.2).mono ?_
        rintro e w1 ⟨rfl, hb'⟩
        rw [HP.out]
        have HB := Lib.hid (bthen hR.out.2 hb' hR.out.2.size)
        clear hb' c0 c1 c2 c3 c4 c5 c6
        go_wp2_with fail
        go_ret
        exact ⟨ret_int HR.out.symm, HB.out⟩
    · have HR : Hid (firstC P L = -1) := by
        have e : L.findIdx P = L.length := findC_is (Nat.le_refl _) (fun p h _ => hR.out.1 p h (by omega)) (fun h => absurd h (by omega))
        unfold Hid firstC
        rw [e, if_neg (by omega)]
      go_wp2_with fail
      go_ret
      exact ⟨ret_int HR.out.symm, hR.out.2⟩
def hasC (s : ByteArray) (L : List CC) : Bool := decide (0 ≤ firstC (nameC s) L)
theorem containsC_any (s : ByteArray) (p : Nat) (A : Option Addr) (n c : Nat) (L : List CC) (w : World) (hs : Crafts w w.heap.size A n L) (hm : n ≤ maxLen) (hp : w.cell? ⟨p, 0, none⟩ = some (.string s)) :
    Calls Try.prog 133 #[.slice A n c, .func (.func 134) #[] #[.pointer (some ⟨p, 0, none⟩)]] w fun e w' => e = .returned (.bool (hasC s L)) ∧ Below w.heap.size w w' := by
  have H := Lib.hid (indexC_any (nameC s) (.pointer (some ⟨p, 0, none⟩)) A n c L w hs hm (fun W v hb => nameC_any s p v W (cell_next hb hp)))
  clear hs hp
  go_enter Try.func133, Try.ntmps133
  go_wp2_with fail
  refine H.out.mono ?_
  rintro e w1 ⟨rfl, hb⟩
  have HT := Lib.hid hb
  clear hb
  go_wp2_with fail
  go_ret
  exact ⟨ret_bool rfl, HT.out⟩
theorem hasCraft_any (s : ByteArray) (A : Option Addr) (n c : Nat) (L : List CC) (w : World) (hs : Crafts w w.heap.size A n L) (hm : n ≤ maxLen) :
    Calls Try.prog 99 #[.slice A n c, .string s] w fun e w' => e = .returned (.bool (hasC s L)) ∧ Below w.heap.size w w' := by
  have HX := Lib.hid (box1 (cs := #[.string s]) (T := 9) (Below.refl _ _) (w := w))
  have HS := Lib.hid (crafts_at hs HX.out.1)
  have hc := HX.out.2.at_ 0 _ rfl
  have HC := Lib.hid hc
  clear hs hc
  go_enter Try.func99, Try.ntmps99
  go_wp2_with fail
  refine (containsC_any s _ A n c L _ HS.out hm HC.out).mono ?_
  rintro e w1 ⟨rfl, hb⟩
  have HT := Lib.hid (bthen HX.out.1 hb HX.out.1.size)
  clear hb
  go_wp2_with fail
  go_ret
  exact ⟨rfl, HT.out⟩
theorem hasCraft_v (s : ByteArray) (A : Option Addr) (n c : Nat) (L : List CC) (v : Bool) (h : hasC s L = v) (w : World) (hs : Crafts w w.heap.size A n L) (hm : n ≤ maxLen) :
    Calls Try.prog 99 #[.slice A n c, .string s] w fun e w' => e = .returned (.bool v) ∧ Below w.heap.size w w' := h ▸ hasCraft_any s A n c L w hs hm
/-! ### Validity of a row -/
def cOf (L : List CC) (k : Nat) : CC := L.getD k ⟨0, ⟨#[]⟩, 0, 0, 0, 0, 0⟩
theorem cOf_at {L : List CC} {k : Nat} {v : CC} (h : L[k]? = some v) : cOf L k = v := by unfold cOf; rw [List.getD_eq_getElem?_getD, h]; rfl
def stepC (L : List CC) (k : Nat) : Bool := craftB (cOf L k) && (k == 0 || decide ((cOf L (k - 1)).id < (cOf L k).id)) && !hasC (cOf L k).nm (L.take k)
def okC (L : List CC) (k : Nat) : Bool := (List.range k).all (stepC L)
def areC (L : List CC) : Bool := decide (L.length ≤ 6) && okC L L.length
theorem okC_succ (L : List CC) (k : Nat) : okC L (k + 1) = (okC L k && stepC L k) := by
  unfold okC
  rw [List.range_succ, List.all_append]
  simp
theorem okC_bad {L : List CC} {k n : Nat} (h : k < n) (hb : stepC L k = false) : okC L n = false := by
  unfold okC
  rw [List.all_eq_false]
  exact ⟨k, by simpa using h, by simpa using hb⟩
theorem okC_at {L : List CC} {k n : Nat} (h : okC L n = true) (hk : k < n) : stepC L k = true := by
  unfold okC at h
  exact List.all_eq_true.1 h k (by simpa using hk)
theorem areC_long {L : List CC} (h : ¬ L.length ≤ 6) : areC L = false := by unfold areC; rw [decide_eq_false h]; rfl
theorem areC_bad {L : List CC} (h : okC L L.length = false) : areC L = false := by unfold areC; rw [h, Bool.and_false]
theorem areC_good {L : List CC} (h : okC L L.length = true) (hl : L.length ≤ 6) : areC L = true := by unfold areC; rw [h, decide_eq_true hl]; rfl
theorem areC_parts {L : List CC} (h : areC L = true) : L.length ≤ 6 ∧ okC L L.length = true := by
  unfold areC at h
  rw [Bool.and_eq_true] at h
  exact ⟨of_decide_eq_true h.1, h.2⟩
theorem areC_at {L : List CC} (h : areC L = true) {k : Nat} {v : CC} (hv : L[k]? = some v) : craftB v = true := by
  have h1 := okC_at (areC_parts h).2 (List.getElem?_eq_some_iff.1 hv).1
  unfold stepC at h1
  rw [cOf_at hv] at h1
  simp only [Bool.and_eq_true] at h1
  exact h1.1.1
theorem areC_asc {L : List CC} (h : areC L = true) {k : Nat} {v v' : CC} (hv : L[k]? = some v) (hv' : L[k + 1]? = some v') : v.id < v'.id := by
  have h1 := okC_at (areC_parts h).2 (List.getElem?_eq_some_iff.1 hv').1
  unfold stepC at h1
  rw [cOf_at hv', Nat.add_sub_cancel, cOf_at hv, Bool.and_eq_true, Bool.and_eq_true] at h1
  simpa using h1.1.2
theorem stepC_invalid {L : List CC} {k : Nat} {v : CC} (h : L[k]? = some v) (hb : craftB v = false) : stepC L k = false := by
  unfold stepC; rw [cOf_at h, hb]; rfl
theorem stepC_named {L : List CC} {k : Nat} {v : CC} (h : L[k]? = some v) (hb : hasC v.nm (L.take k) = true) : stepC L k = false := by
  unfold stepC; rw [cOf_at h, hb]; simp
theorem stepC_order {L : List CC} {k : Nat} {v v' : CC} (h : L[k + 1]? = some v) (h' : L[k]? = some v') (hb : ¬ v'.id < v.id) : stepC L (k + 1) = false := by
  unfold stepC; rw [cOf_at h, Nat.add_sub_cancel, cOf_at h', decide_eq_false hb]; simp
theorem stepC_fine0 {L : List CC} {v : CC} (h : L[0]? = some v) (hb : craftB v = true) (hn : hasC v.nm (L.take 0) = false) : stepC L 0 = true := by
  unfold stepC; rw [cOf_at h, hb, hn]; rfl
theorem stepC_fine {L : List CC} {k : Nat} {v v' : CC} (h : L[k + 1]? = some v) (h' : L[k]? = some v') (hb : craftB v = true) (ho : v'.id < v.id) (hn : hasC v.nm (L.take (k + 1)) = false) : stepC L (k + 1) = true := by
  unfold stepC; rw [cOf_at h, Nat.add_sub_cancel, cOf_at h', hb, hn, decide_eq_true ho]; simp
theorem hasC_nil (s : ByteArray) : hasC s [] = false := by unfold hasC firstC; simp
set_option maxRecDepth 20000 in
set_option maxHeartbeats 3200000 in
theorem areC_impl (A : Option Addr) (n c : Nat) (L : List CC) (w : World) (hs : Crafts w w.heap.size A n L) (hm : n ≤ maxLen) (hcap : n ≤ c) :
    Calls Try.prog 31 #[.slice A n c] w fun e w' => e = .returned (.bool (areC L)) ∧ Below w.heap.size w w' := by
  obtain rfl := hs.1
  have HS := Lib.hid hs
  clear hs
  unfold maxLen at hm
  by_cases h6 : (6 : Int) < L.length
  · have HR := Lib.hid (areC_long (L := L) (by omega))
    go_enter Try.func31, Try.ntmps31
    go_wp2_with fail
    go_ret
    exact ⟨ret_bool HR.out.symm, Below.refl _ _⟩
  go_enter Try.func31, Try.ntmps31
  go_wp2_with fail
  go_loopw [10] (fun i wr => ∃ k : Nat, k ≤ L.length ∧ i = .int .i64 k ∧ Hid (okC L k = true) ∧ Hid (Below w.heap.size w wr)) (fun i _ => L.length - (intOf i).toNat)
  case atStart => exact ⟨0, Nat.zero_le _, rfl, by simp [Hid, okC], Lib.hid (Below.refl _ _)⟩
  case round =>
    obtain ⟨k, hk, rfl, hA, hB⟩ := hrel
    by_cases hlt : k < L.length
    · obtain ⟨b, o, v, rfl, hbl, hL, hn, c0, c1, c2, c3, c4, c5, c6⟩ := (crafts_at HS.out hB.out).2 k hlt
      have HK := Lib.hid hL
      obtain ⟨W0, hW0⟩ : ∃ W0, W0 = wr.alloc (.cells #[.int .i64 v.id, .string v.nm, .int .i64 v.dr, .int .i64 v.ah, .int .i64 v.be, .int .i64 v.sp, .int .i64 v.fu] 31) := ⟨_, rfl⟩
      have HW : Hid (Below wr.heap.size wr W0 ∧ Has W0 wr.heap.size [.int .i64 v.id, .string v.nm, .int .i64 v.dr, .int .i64 v.ah, .int .i64 v.be, .int .i64 v.sp, .int .i64 v.fu]) := by rw [hW0]; exact box1 (Below.refl _ _)
      have HB0 := Lib.hid (bthen hB.out HW.out.1 hB.out.size)
      have HGT := Lib.hid (crafts_at ((crafts_at HS.out hB.out).take (Nat.le_of_lt hlt)) HW.out.1)
      have a0 := HW.out.2.at_ 0 _ rfl
      have a1 := HW.out.2.at_ 1 _ rfl
      have a2 := HW.out.2.at_ 2 _ rfl
      have a3 := HW.out.2.at_ 3 _ rfl
      have a4 := HW.out.2.at_ 4 _ rfl
      have a5 := HW.out.2.at_ 5 _ rfl
      have a6 := HW.out.2.at_ 6 _ rfl
      have HE := Lib.hid hW0
      clear hW0 hL
      go_wp2_with fail
      rw [← HE.out]
      clear c0 c1 c2 c3 c4 c5 c6
      rcases hv : craftB v with _ | _
      · have HV := Lib.hid hv
        have HR := Lib.hid (areC_bad (okC_bad hlt (stepC_invalid HK.out hv)))
        clear hv
        have lc0 := lcell (a0)
        have lc1 := lcell (a1)
        have lc2 := lcell (a2)
        have lc3 := lcell (a3)
        have lc4 := lcell (a4)
        have lc5 := lcell (a5)
        have lc6 := lcell (a6)
        refine region_later (W := W0) (by kernel_rfl) (by kernel_rfl) (Below.refl _ _) ?_
        repeat (go_big_quiet_step (((go_at_call 36; exact later_call (isCraft_v v _ HV.out _ hn)))))
        refine wpQuiet_nil ?_
        intro W1 hW1
        have HL : Hid (Below W0.heap.size W0 W1) := by obtain ⟨x, rfl⟩ := hW1; exact Lib.hid x.below
        clear hW1 lc0 lc1 lc2 lc3 lc4 lc5 lc6
        have HT := Lib.hid (bthen HB0.out HL.out HB0.out.size)
        go_wp2_with fail
        go_ret
        exact ⟨ret_bool HR.out.symm, HT.out⟩
      have HV := Lib.hid hv
      clear hv
      rcases k with _ | j
      · have HNM : Hid (hasC v.nm (L.take 0) = false) := hasC_nil v.nm
        have HR : Hid (okC L (0 + 1) = true) := by unfold Hid; rw [okC_succ, hA.out, stepC_fine0 HK.out HV.out HNM.out]; rfl
        have lc0 := lcell (a0)
        have lc1 := lcell (a1)
        have lc2 := lcell (a2)
        have lc3 := lcell (a3)
        have lc4 := lcell (a4)
        have lc5 := lcell (a5)
        have lc6 := lcell (a6)
        refine region_later (W := W0) (by kernel_rfl) (by kernel_rfl) (Below.refl _ _) ?_
        repeat (go_big_quiet_step (((first | (go_at_call 36; exact later_call (isCraft_v v _ HV.out _ hn)) | (go_at_call 99; exact later_call (hasCraft_v v.nm _ _ _ (L.take 0) _ HNM.out _ (crafts_at HGT.out (Later.below _)) (by unfold maxLen; omega)))))))
        refine wpQuiet_nil ?_
        intro W1 hW1
        have HL : Hid (Below W0.heap.size W0 W1) := by obtain ⟨x, rfl⟩ := hW1; exact Lib.hid x.below
        clear hW1 lc0 lc1 lc2 lc3 lc4 lc5 lc6
        have HT := Lib.hid (bthen HB0.out HL.out HB0.out.size)
        go_wp2_with fail
        go_roundw
        case rel => exact ⟨1, by omega, by go_num, HR, HT⟩
        case measure => simp [intOf]; omega
      · obtain ⟨b', o', v', hA', hb', hL', hn', d0, d1, d2, d3, d4, d5, d6⟩ := (crafts_at HS.out hB.out).2 j (by omega)
        obtain ⟨rfl, rfl⟩ : b = b' ∧ o = o' := by injection hA' with h; injection h with h h'; exact ⟨h, h'⟩
        have e0 := cell_next HW.out.1 d0
        have HK' := Lib.hid hL'
        clear hA' hL' d0 d1 d2 d3 d4 d5 d6
        by_cases hx : v.id ≤ v'.id
        · have HR := Lib.hid (areC_bad (okC_bad hlt (stepC_order HK.out HK'.out (by omega))))
          have hd : decide (v.id ≤ v'.id) = true := decide_eq_true hx
          have lc0 := lcell (a0)
          have lc1 := lcell (a1)
          have lc2 := lcell (a2)
          have lc3 := lcell (a3)
          have lc4 := lcell (a4)
          have lc5 := lcell (a5)
          have lc6 := lcell (a6)
          have lc7 := lcell (e0)
          refine region_later (W := W0) (by kernel_rfl) (by kernel_rfl) (Below.refl _ _) ?_
          repeat (go_big_quiet_step (((go_at_call 36; exact later_call (isCraft_v v _ HV.out _ hn)))))
          refine wpQuiet_nil ?_
          intro W1 hW1
          have HL : Hid (Below W0.heap.size W0 W1) := by obtain ⟨x, rfl⟩ := hW1; exact Lib.hid x.below
          clear hW1 lc0 lc1 lc2 lc3 lc4 lc5 lc6 lc7
          have HT := Lib.hid (bthen HB0.out HL.out HB0.out.size)
          go_wp2_with fail
          go_ret
          exact ⟨ret_bool HR.out.symm, HT.out⟩
        have hd : decide (v.id ≤ v'.id) = false := decide_eq_false hx
        rcases hnm : hasC v.nm (L.take (j + 1)) with _ | _
        · have HNM := Lib.hid hnm
          have HR : Hid (okC L (j + 1 + 1) = true) := by unfold Hid; rw [okC_succ, hA.out, stepC_fine HK.out HK'.out HV.out (by omega) hnm]; rfl
          clear hnm
          have lc0 := lcell (a0)
          have lc1 := lcell (a1)
          have lc2 := lcell (a2)
          have lc3 := lcell (a3)
          have lc4 := lcell (a4)
          have lc5 := lcell (a5)
          have lc6 := lcell (a6)
          have lc7 := lcell (e0)
          refine region_later (W := W0) (by kernel_rfl) (by kernel_rfl) (Below.refl _ _) ?_
          repeat (go_big_quiet_step (((first | (go_at_call 36; exact later_call (isCraft_v v _ HV.out _ hn)) | (go_at_call 99; exact later_call (hasCraft_v v.nm _ _ _ (L.take (j + 1)) _ HNM.out _ (crafts_at HGT.out (Later.below _)) (by unfold maxLen; omega)))))))
          refine wpQuiet_nil ?_
          intro W1 hW1
          have HL : Hid (Below W0.heap.size W0 W1) := by obtain ⟨x, rfl⟩ := hW1; exact Lib.hid x.below
          clear hW1 lc0 lc1 lc2 lc3 lc4 lc5 lc6 lc7
          have HT := Lib.hid (bthen HB0.out HL.out HB0.out.size)
          go_wp2_with fail
          go_roundw
          case rel => exact ⟨j + 1 + 1, by omega, by go_num, HR, HT⟩
          case measure => simp [intOf]; omega
        · have HNM := Lib.hid hnm
          have HR := Lib.hid (areC_bad (okC_bad hlt (stepC_named HK.out hnm)))
          clear hnm
          have lc0 := lcell (a0)
          have lc1 := lcell (a1)
          have lc2 := lcell (a2)
          have lc3 := lcell (a3)
          have lc4 := lcell (a4)
          have lc5 := lcell (a5)
          have lc6 := lcell (a6)
          have lc7 := lcell (e0)
          refine region_later (W := W0) (by kernel_rfl) (by kernel_rfl) (Below.refl _ _) ?_
          repeat (go_big_quiet_step (((first | (go_at_call 36; exact later_call (isCraft_v v _ HV.out _ hn)) | (go_at_call 99; exact later_call (hasCraft_v v.nm _ _ _ (L.take (j + 1)) _ HNM.out _ (crafts_at HGT.out (Later.below _)) (by unfold maxLen; omega)))))))
          refine wpQuiet_nil ?_
          intro W1 hW1
          have HL : Hid (Below W0.heap.size W0 W1) := by obtain ⟨x, rfl⟩ := hW1; exact Lib.hid x.below
          clear hW1 lc0 lc1 lc2 lc3 lc4 lc5 lc6 lc7
          have HT := Lib.hid (bthen HB0.out HL.out HB0.out.size)
          go_wp2_with fail
          go_ret
          exact ⟨ret_bool HR.out.symm, HT.out⟩
    · obtain rfl : k = L.length := by omega
      have HR : Hid (areC L = true) := areC_good hA.out (by omega)
      go_wp2_with fail
      go_ret
      exact ⟨ret_bool HR.out.symm, hB.out⟩
theorem areC_v (A : Option Addr) (n c : Nat) (L : List CC) (v : Bool) (h : areC L = v) (w : World) (hs : Crafts w w.heap.size A n L) (hm : n ≤ maxLen) (hcap : n ≤ c) :
    Calls Try.prog 31 #[.slice A n c] w fun e w' => e = .returned (.bool v) ∧ Below w.heap.size w w' := h ▸ areC_impl A n c L w hs hm hcap
end Go.Proofs.Ytfffahkommbheaa
