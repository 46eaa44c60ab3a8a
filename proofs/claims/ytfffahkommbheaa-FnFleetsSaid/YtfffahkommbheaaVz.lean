/-
  Fuel that is used: contracts of impl.UseFuel, spec.UseFuel over this translation. Conditions: stated at each theorem.
-/
import Derived.Test.YtfffahkommbheaaVu
import Derived.Deep.DeepCutAuto
namespace Go.Proofs.Ytfffahkommbheaa
open Go.RowKit

def ufP (id m : Int) (v : CC) : Bool := decide (v.id = id) && decide (m ≤ v.fu)
def ufI (L : List CC) (id m : Int) : Nat := L.findIdx (ufP id m)
def ufK (L : List CC) (id m : Int) : Bool := areC L && inB m 0 10000 && decide (ufI L id m < L.length)
/-- The craft, that with the Id with less fuel. -/
def ufR (L : List CC) (id m : Int) : List CC := if ufK L id m then L.set (ufI L id m) (fuC (cOf L (ufI L id m)) ((cOf L (ufI L id m)).fu - m)) else []
def UfPost (L : List CC) (id m : Int) (w : World) (e : Ending) (w' : World) : Prop :=
  ∃ A c, e = .returned (.tuple #[.slice A (ufR L id m).length c, .bool (ufK L id m)]) ∧ OwnC w' w.heap.size w'.heap.size A (ufR L id m).length (ufR L id m) ∧ Below w.heap.size w w'
theorem uf_no {L : List CC} {id m : Int} {A : Option Addr} {c : Nat} {w w' : World} (hk : ufK L id m = false) (hb : Below w.heap.size w w') : UfPost L id m w (.returned (.tuple #[.slice A 0 c, .bool false])) w' := by
  have hR : ufR L id m = [] := by unfold ufR; rw [hk]; rfl
  exact ⟨A, c, by rw [hk, hR]; rfl, by rw [hR]; exact ⟨rfl, .inl rfl⟩, hb⟩
theorem uf_yes {L : List CC} {id m : Int} {g c i : Nat} {v : CC} {w w' : World} (hk : ufK L id m = true) (hi : ufI L id m = i) (hv : L[i]? = some v) (hF : FillC w' w.heap.size g L.length L.length (L.set i (fuC v (v.fu - m)))) (hb : Below w.heap.size w w') :
    UfPost L id m w (.returned (.tuple #[.slice (some ⟨g, 0, none⟩) L.length c, .bool true])) w' := by
  have hR : ufR L id m = L.set i (fuC v (v.fu - m)) := by unfold ufR; rw [hk, if_pos rfl, hi, cOf_at hv]
  have hl : (ufR L id m).length = L.length := by rw [hR, List.length_set]
  exact ⟨some ⟨g, 0, none⟩, c, by rw [hk, hl], by rw [hl, hR]; exact own_of_fill hF (List.length_set ..), hb⟩
theorem ufI_at {L : List CC} {id m : Int} {i : Nat} {v : CC} (hv : L[i]? = some v) (h : ufP id m v = true) (hb : ∀ p, p < i → ∀ u, L[p]? = some u → ufP id m u = false) : ufI L id m = i := by
  have hl := (List.getElem?_eq_some_iff.1 hv).1
  refine findC_is (Nat.le_of_lt hl) (fun p hp hpi => hb p hpi _ (List.getElem?_eq_getElem hp)) (fun h' => ?_)
  obtain ⟨_, he⟩ := List.getElem?_eq_some_iff.1 hv
  rw [he]; exact h
theorem ufI_none {L : List CC} {id m : Int} (h : ∀ (p : Nat) (u : CC), L[p]? = some u → ufP id m u = false) : ¬ ufI L id m < L.length := by
  intro hl
  have h1 : ufP id m L[ufI L id m] = true := List.findIdx_getElem
  rw [h _ _ (List.getElem?_eq_getElem hl)] at h1
  cases h1
theorem ufK_1 {L : List CC} {id m : Int} (h : areC L = false) : ufK L id m = false := by unfold ufK; rw [h]; rfl
theorem ufK_2 {L : List CC} {id m : Int} (h : inB m 0 10000 = false) : ufK L id m = false := by unfold ufK; rw [h, Bool.and_false]; rfl
theorem ufK_3 {L : List CC} {id m : Int} (h : ∀ (p : Nat) (u : CC), L[p]? = some u → ufP id m u = false) : ufK L id m = false := by unfold ufK; rw [decide_eq_false (ufI_none h), Bool.and_false]
theorem ufK_4 {L : List CC} {id m : Int} {i : Nat} (h1 : areC L = true) (h2 : inB m 0 10000 = true) (h : ufI L id m = i) (hi : i < L.length) : ufK L id m = true := by unfold ufK; rw [h1, h2, decide_eq_true (by omega)]; rfl
theorem ufP_id {id m : Int} {v : CC} (h : v.id ≠ id) : ufP id m v = false := by unfold ufP; rw [decide_eq_false h]; rfl
theorem ufP_fu {id m : Int} {v : CC} (h : v.fu < m) : ufP id m v = false := by unfold ufP; rw [decide_eq_false (show ¬ m ≤ v.fu by omega), Bool.and_false]
theorem ufP_yes {id m : Int} {v : CC} (h1 : v.id = id) (h2 : m ≤ v.fu) : ufP id m v = true := by unfold ufP; rw [decide_eq_true h1, decide_eq_true h2]; rfl
theorem only_one {L : List CC} (ha : AscC L) {i p : Nat} {v u : CC} (hv : L[i]? = some v) (hu : L[p]? = some u) (h : u.id = v.id) : p = i := by
  have h1 := (List.getElem?_eq_some_iff.1 hv).1
  have h2 := (List.getElem?_eq_some_iff.1 hu).1
  rcases Nat.lt_trichotomy p i with h3 | h3 | h3
  · have := ha p i h3 h1; rw [cOf_at hv, cOf_at hu] at this; omega
  · exact h3
  · have := ha i p h3 h2; rw [cOf_at hv, cOf_at hu] at this; omega
set_option maxRecDepth 20000 in
set_option maxHeartbeats 3200000 in
theorem use_impl (A : Option Addr) (n c : Nat) (L : List CC) (id m : Int) (w : World) (hs : Crafts w w.heap.size A n L) (hm : n ≤ maxLen) (hcap : n ≤ c) :
    Calls Try.prog 17 #[.slice A n c, .int .i64 id, .int .i64 m] w (UfPost L id m w) := by
  obtain rfl := hs.1
  have HS := Lib.hid hs
  clear hs
  rcases ha : areC L with _ | _
  · have HA := Lib.hid ha
    clear ha
    go_enter Try.func17, Try.ntmps17
    go_wp2_with fail
    refine (areC_v _ _ _ L _ HA.out _ HS.out hm hcap).mono ?_
    rintro e w1 ⟨rfl, hb⟩
    have HB := Lib.hid (hb.alloc hb.size (.cells #[] 31))
    clear hb
    go_wp2_with fail
    go_ret2
    exact uf_no (ufK_1 HA.out) HB.out
  rcases hq : inB m 0 10000 with _ | _
  · have HA := Lib.hid ha
    have HQ := Lib.hid hq
    clear ha hq
    go_enter Try.func17, Try.ntmps17
    go_wp2_with fail
    refine (areC_v _ _ _ L _ HA.out _ HS.out hm hcap).mono ?_
    rintro e w1 ⟨rfl, hb⟩
    have HB := Lib.hid (hb.alloc hb.size (.cells #[] 31))
    clear hb
    go_wp2_with fail
    refine (within_v _ _ _ _ HQ.out _).mono ?_
    rintro e w' ⟨rfl, rfl⟩
    go_wp2_with fail
    go_ret2
    exact uf_no (ufK_2 HQ.out) HB.out
  have HA := Lib.hid ha
  have HQ := Lib.hid hq
  have hl6 := (areC_parts ha).1
  have HO := Lib.hid (asc_of_areC ha)
  have hq2 := inB_yes hq
  obtain ⟨hq21, hq22⟩ := hq2
  clear ha hq
  go_enter Try.func17, Try.ntmps17
  go_wp2_with fail
  refine (areC_v _ _ _ L _ HA.out _ HS.out hm hcap).mono ?_
  rintro e w1 ⟨rfl, hb⟩
  have HB1 := Lib.hid hb
  clear hb
  go_wp2_with fail
  refine (within_v _ _ _ _ HQ.out _).mono ?_
  rintro e w' ⟨rfl, rfl⟩
  go_wp2_with fail
  refine (craftWith_any _ _ _ L id _ (crafts_at HS.out HB1.out) (by omega) HO.out).mono ?_
  rintro e w2 ⟨i, hi, rfl, hb⟩
  have HL := Lib.hid hi
  have HB2 := Lib.hid (bthen HB1.out hb HB1.out.size)
  clear hi hb
  rcases hh : hitC L id i with _ | _
  · have HN : Hid (∀ (p : Nat) (u : CC), L[p]? = some u → ufP id m u = false) := Lib.hid fun p u hu => by
      refine ufP_id fun he => ?_
      have hp := (List.getElem?_eq_some_iff.1 hu).1
      have h1 := of_decide_eq_false hh
      have h2 : i ≤ p := by
        rcases Nat.lt_or_ge p i with h | h
        · have := HL.out.2.1 p h; rw [cOf_at hu] at this; omega
        · exact h
      have h3 := HL.out.2.2 i (Nat.le_refl _) (by omega)
      have h4 : (cOf L i).id ≤ (cOf L p).id := by
        rcases Nat.lt_or_ge i p with h | h
        · have := HO.out i p h hp; omega
        · obtain rfl : i = p := by omega
          exact Int.le_refl _
      rw [cOf_at hu] at h4
      exact h1 ⟨by omega, by omega⟩
    have HB := Lib.hid (HB2.out.alloc HB2.out.size (.cells #[] 31))
    clear hh
    go_wp2_with fail
    go_ret2
    exact uf_no (ufK_3 HN.out) HB.out
  obtain ⟨hil, hid⟩ := of_decide_eq_true hh
  clear hh
  obtain ⟨b, o, v, rfl, hbl, hv, hn, c0, c1, c2, c3, c4, c5, c6⟩ := (crafts_at HS.out HB2.out).2 i hil
  rw [cOf_at hv] at hid
  have HV := Lib.hid hv
  have HID := Lib.hid hid
  obtain ⟨_, _, _, _, _, ⟨f1, f2⟩, _⟩ := craftB_parts (areC_at HA.out hv)
  clear hv hid c0 c1 c2 c3 c4 c5
  by_cases hf : v.fu < m
  · have HN : Hid (∀ (p : Nat) (u : CC), L[p]? = some u → ufP id m u = false) := Lib.hid fun p u hu => by
      by_cases he : u.id = id
      · obtain rfl := only_one HO.out HV.out hu (by rw [he, HID.out])
        obtain rfl : v = u := Option.some.inj (HV.out.symm.trans hu)
        exact ufP_fu hf
      · exact ufP_id he
    have HB := Lib.hid (HB2.out.alloc HB2.out.size (.cells #[] 31))
    go_wp2_with fail
    go_ret2
    exact uf_no (ufK_3 HN.out) HB.out
  · have HI : Hid (ufI L id m = i) := Lib.hid (ufI_at HV.out (ufP_yes HID.out (by omega)) fun p hp u hu => ufP_id fun he => by
      have := only_one HO.out HV.out hu (by rw [he, HID.out]); omega)
    have HK := Lib.hid (ufK_4 HA.out HQ.out HI.out hil)
    go_wp2_with fail
    refine (cloneC_any _ _ _ L _ (crafts_at HS.out HB2.out) (by omega) (by omega)).mono ?_
    rintro e w3 ⟨g, cc, rfl, hF, hb⟩
    have HF := Lib.hid (hF.wide HB2.out.size)
    have HB3 := Lib.hid (bthen HB2.out hb HB2.out.size)
    clear hF hb c6
    obtain ⟨v2, hv2, d0, d1, d2, d3, d4, d5, d6⟩ := HF.out.done i hil
    obtain rfl : v = v2 := Option.some.inj (HV.out.symm.trans hv2)
    clear hv2 d0 d1 d2 d3 d4 d5
    have fr := HF.out.free (i * 7 + 6)
    have HF4 := Lib.hid (HF.out.setFu hil HV.out (v.fu - m))
    have HB4 := Lib.hid (HB3.out.setCell (p := ⟨g, i * 7 + 6, none⟩) HF.out.low (.int .i64 (v.fu - m)))
    go_wp2_with fail
    go_ret2
    exact uf_yes HK.out HI.out HV.out HF4.out HB4.out
set_option maxRecDepth 20000 in
set_option maxHeartbeats 3200000 in
theorem use_spec (A : Option Addr) (n c : Nat) (L : List CC) (id m : Int) (w : World) (hs : Crafts w w.heap.size A n L) (hm : n ≤ maxLen) :
    Calls Try.prog 18 #[.slice A n c, .int .i64 id, .int .i64 m] w (UfPost L id m w) := by
  obtain rfl := hs.1
  have HS := Lib.hid hs
  clear hs
  rcases ha : areC L with _ | _
  · have HA := Lib.hid ha
    clear ha
    go_enter Try.func18, Try.ntmps18
    go_wp2_with fail
    refine (goodC_v _ _ _ L _ HA.out _ HS.out hm).mono ?_
    rintro e w1 ⟨rfl, hb⟩
    have HB := Lib.hid (hb.alloc hb.size (.cells #[] 31))
    clear hb
    go_wp2_with fail
    go_ret2
    exact uf_no (ufK_1 HA.out) HB.out
  rcases hq : inB m 0 10000 with _ | _
  · have HA := Lib.hid ha
    have HQ := Lib.hid hq
    clear ha hq
    go_enter Try.func18, Try.ntmps18
    go_wp2_with fail
    refine (goodC_v _ _ _ L _ HA.out _ HS.out hm).mono ?_
    rintro e w1 ⟨rfl, hb⟩
    have HB := Lib.hid (hb.alloc hb.size (.cells #[] 31))
    clear hb
    go_wp2_with fail
    refine (l1In_v _ _ _ _ HQ.out _).mono ?_
    rintro e w' ⟨rfl, rfl⟩
    go_wp2_with fail
    go_ret2
    exact uf_no (ufK_2 HQ.out) HB.out
  have HA := Lib.hid ha
  have HQ := Lib.hid hq
  have hl6 := (areC_parts ha).1
  have hq2 := inB_yes hq
  obtain ⟨hq21, hq22⟩ := hq2
  obtain ⟨i0, hi, hz0, hz1, hz2⟩ := info_parts infoCraft
  have HI := Lib.hid (And.intro hi (And.intro hz0 (And.intro hz1 hz2)))
  clear ha hq hi hz0 hz1 hz2
  go_enter Try.func18, Try.ntmps18
  go_wp2_with fail
  refine (goodC_v _ _ _ L _ HA.out _ HS.out hm).mono ?_
  rintro e w1 ⟨rfl, hb⟩
  have HB1 := Lib.hid hb
  clear hb
  go_wp2_with fail
  refine (l1In_v _ _ _ _ HQ.out _).mono ?_
  rintro e w' ⟨rfl, rfl⟩
  go_wp2_with fail
  go_loopw [8] (fun i wr => ∃ k : Nat, k ≤ L.length ∧ i = .int .i64 k ∧ Hid (∀ p, p < k → ∀ u, L[p]? = some u → ufP id m u = false) ∧ Hid (Below w.heap.size w wr)) (fun i _ => L.length - (intOf i).toNat)
  case atStart => exact ⟨0, Nat.zero_le _, rfl, Lib.hid fun p hp => absurd hp (by omega), HB1⟩
  case round =>
    obtain ⟨k, hk, rfl, hN, hB⟩ := hrel
    by_cases hlt : k < L.length
    · obtain ⟨b, o, v, rfl, hbl, hv, hn, c0, c1, c2, c3, c4, c5, c6⟩ := (crafts_at HS.out hB.out).2 k hlt
      have HV := Lib.hid hv
      obtain ⟨_, _, _, _, _, ⟨f1, f2⟩, _⟩ := craftB_parts (areC_at HA.out hv)
      obtain ⟨W0, hW0⟩ : ∃ W0, W0 = wr.alloc (.cells #[.int .i64 v.id, .string v.nm, .int .i64 v.dr, .int .i64 v.ah, .int .i64 v.be, .int .i64 v.sp, .int .i64 v.fu] 31) := ⟨_, rfl⟩
      have HW : Hid (Below wr.heap.size wr W0 ∧ Has W0 wr.heap.size [.int .i64 v.id, .string v.nm, .int .i64 v.dr, .int .i64 v.ah, .int .i64 v.be, .int .i64 v.sp, .int .i64 v.fu]) := by rw [hW0]; exact box1 (Below.refl _ _)
      have HZ : Hid (W0.heap.size = wr.heap.size + 1) := Lib.hid (by rw [hW0]; simp)
      have HB0 := Lib.hid (bthen hB.out HW.out.1 hB.out.size)
      have a0 := HW.out.2.at_ 0 _ rfl
      have a6 := HW.out.2.at_ 6 _ rfl
      have HE := Lib.hid hW0
      clear hW0 hv
      go_upto_region 7 with fail
      rw [← HE.out]
      clear c0 c1 c2 c3 c4 c5 c6
      by_cases he : v.id = id
      · by_cases hf : m ≤ v.fu
        · have HJ : Hid (ufI L id m = k) := Lib.hid (ufI_at HV.out (ufP_yes he hf) fun p hp u hu => hN.out p hp u hu)
          have HK := Lib.hid (ufK_4 HA.out HQ.out HJ.out hlt)
          have hd1 : (v.id == id) = true := by simpa using he
          have hd2 : decide (v.fu ≥ m) = true := decide_eq_true hf
          clear he
          have hbox : Below W0.heap.size W0 (W0.alloc (.cells #[] 31)) := (Below.refl _ _).alloc (Nat.le_refl _) _
          obtain ⟨a, ha, hcs⟩ := crafts_cells (crafts_at HS.out (bthen HB0.out hbox HB0.out.size)) (by omega)
          obtain rfl : a = ⟨b, o, none⟩ := (Option.some.inj ha).symm
          have HX := Lib.hid hcs
          have HNE : Hid (some wr.heap.size ≠ some W0.heap.size) := Lib.hid (by have := HZ.out; intro h; injection h; omega)
          have HC := Lib.hid (col_start (w := W0) 31 7 (Below.refl _ W0))
          clear ha hcs hbox
          go_upto_region 9 with (at_builtin; go_loud (refine wpList_append_own _ rfl _ _ 24 rfl W0.heap.size 31 i0 (.agg #[.int .i64 0, .string ⟨#[]⟩, .int .i64 0, .int .i64 0, .int .i64 0, .int .i64 0, .int .i64 0]) 7 64 Try.underlying24 HI.out.1 HI.out.2.1 HI.out.2.2.1 HI.out.2.2.2 rfl (by decide) _ _ _ rfl HC.out.1 ⟨b, o, none⟩ L.length c (cellsC L) rfl (cellsC_len L) HX.out (cellsC_one L) (by unfold maxLen; omega) (by omega) (by simp) ?_; intro v' w5 hown' hgrow _; have HN := Lib.hid (HC.out.grow hown' hgrow); have HW5 : Hid (Has w5 wr.heap.size [.int .i64 v.id, .string v.nm, .int .i64 v.dr, .int .i64 v.ah, .int .i64 v.be, .int .i64 v.sp, .int .i64 v.fu]) := Lib.hid (has_grown (HW.out.2.alloc _) hgrow HNE.out); clear hown' hgrow))
          have hn3 := HN.out
          rw [Nat.zero_add, List.nil_append] at hn3
          obtain ⟨g, cc, rfl, hF⟩ := row_fill hn3.1 (by omega) rfl
          have HF5 := Lib.hid hF
          have HB5 := Lib.hid (bthen HB0.out hn3.2 HB0.out.size)
          have hwk : w.heap.size ≤ wr.heap.size := hB.out.size
          have hgl : w.heap.size ≤ g := by have := hF.low; have := HZ.out; omega
          clear hn3 hF a0 a6
          have b6 := HW5.out.at_ 6 _ rfl
          have fb6 := HW5.out.free 6
          go_upto_region 10 with fail
          obtain ⟨w6, hw6⟩ : ∃ W, W = w5.setCell ⟨wr.heap.size, 6, none⟩ (.int .i64 (v.fu - m)) := ⟨_, rfl⟩
          rw [← hw6]
          have HW6 : Hid (Has w6 wr.heap.size [.int .i64 v.id, .string v.nm, .int .i64 v.dr, .int .i64 v.ah, .int .i64 v.be, .int .i64 v.sp, .int .i64 (v.fu - m)]) := by rw [hw6]; exact Lib.hid (HW5.out.set 6 _)
          have HF6 : Hid (FillC w6 W0.heap.size g L.length L.length L) := by rw [hw6]; exact Lib.hid (fillC_far HF5.out ((FarB.refl wr.heap.size (wr.heap.size + 1) w5).setCell (p := ⟨wr.heap.size, 6, none⟩) (Nat.le_refl _) (Nat.lt_succ_self _) _) (.inr (by have := HF5.out.low; have := HZ.out; omega)))
          have HB6 : Hid (Below w.heap.size w w6) := by rw [hw6]; exact Lib.hid (HB5.out.setCell (p := ⟨wr.heap.size, 6, none⟩) hwk _)
          clear hw6 b6 fb6
          obtain ⟨v2, hv2, d0, d1, d2, d3, d4, d5, d6⟩ := HF6.out.done k hlt
          obtain rfl : v = v2 := Option.some.inj (HV.out.symm.trans hv2)
          clear hv2
          have f0 := HF6.out.free (k * 7)
          have f1 := HF6.out.free (k * 7 + 1)
          have f2 := HF6.out.free (k * 7 + 2)
          have f3 := HF6.out.free (k * 7 + 3)
          have f4 := HF6.out.free (k * 7 + 4)
          have f5 := HF6.out.free (k * 7 + 5)
          have f6 := HF6.out.free (k * 7 + 6)
          have b0 := HW6.out.at_ 0 _ rfl
          have b1 := HW6.out.at_ 1 _ rfl
          have b2 := HW6.out.at_ 2 _ rfl
          have b3 := HW6.out.at_ 3 _ rfl
          have b4 := HW6.out.at_ 4 _ rfl
          have b5 := HW6.out.at_ 5 _ rfl
          have b6 := HW6.out.at_ 6 _ rfl
          have HF7 : Hid (FillC (setL w6 g (k * 7) [.int .i64 v.id, .string v.nm, .int .i64 v.dr, .int .i64 v.ah, .int .i64 v.be, .int .i64 v.sp, .int .i64 (v.fu - m)]) W0.heap.size g L.length L.length (L.set k (fuC v (v.fu - m)))) := Lib.hid (HF6.out.setC hlt rfl (fuC v (v.fu - m)))
          have HF8 := Lib.hid (HF7.out.wide HB0.out.size)
          have HB7 := Lib.hid (setL_below [.int .i64 v.id, .string v.nm, .int .i64 v.dr, .int .i64 v.ah, .int .i64 v.be, .int .i64 v.sp, .int .i64 (v.fu - m)] HB6.out hgl (k * 7))
          go_wp2_with fail
          go_ret2
          exact uf_yes HK.out HJ.out HV.out HF8.out HB7.out
        · have HN2 : Hid (∀ p, p < k + 1 → ∀ u, L[p]? = some u → ufP id m u = false) := Lib.hid fun p hp u hu => by
            rcases Nat.lt_or_ge p k with h | h
            · exact hN.out p h u hu
            · obtain rfl : p = k := by omega
              obtain rfl := Option.some.inj (HV.out.symm.trans hu)
              exact ufP_fu (by omega)
          have hd1 : (v.id == id) = true := by simpa using he
          have hd2 : decide (v.fu ≥ m) = false := decide_eq_false hf
          clear he
          go_wp2_with fail
          go_roundw
          case rel => exact ⟨k + 1, by omega, by go_num, HN2, HB0⟩
          case measure => simp [intOf]; omega
      · have HN2 : Hid (∀ p, p < k + 1 → ∀ u, L[p]? = some u → ufP id m u = false) := Lib.hid fun p hp u hu => by
          rcases Nat.lt_or_ge p k with h | h
          · exact hN.out p h u hu
          · obtain rfl : p = k := by omega
            obtain rfl := Option.some.inj (HV.out.symm.trans hu)
            exact ufP_id he
        have hd1 : (v.id == id) = false := beq_eq_false_iff_ne.2 he
        go_wp2_with fail
        go_roundw
        case rel => exact ⟨k + 1, by omega, by go_num, HN2, HB0⟩
        case measure => simp [intOf]; omega
    · obtain rfl : k = L.length := by omega
      have HN : Hid (∀ (p : Nat) (u : CC), L[p]? = some u → ufP id m u = false) := Lib.hid fun p u hu => hN.out p (List.getElem?_eq_some_iff.1 hu).1 u hu
      have HB := Lib.hid (hB.out.alloc hB.out.size (.cells #[] 31))
      go_wp2_with fail
      go_ret2
      exact uf_no (ufK_3 HN.out) HB.out
end Go.Proofs.Ytfffahkommbheaa
