/-
  Where a reading with a time lies: contracts of cmp.Compare at int, impl.placeOf and the search below it, spec.l3At, impl.HeightOf, spec.HeightOf over this translation. Conditions: stated at each theorem.
-/
import Derived.Test.YtdmnkmdlochogaaGauge
import Derived.Test.YtdmnkmdlochogaaCm
namespace Go.Proofs.Ytdmnkmdlochogaa
open Go.RowKit

/-! ### Readings in the order of their times -/
def tmAt (l : List (Int × Int)) (k : Nat) : Int := (l.getD k (0, 0)).1
def lvAt (l : List (Int × Int)) (k : Nat) : Int := (l.getD k (0, 0)).2
theorem tm_of {l : List (Int × Int)} {k : Nat} {x y : Int} (h : l[k]? = some (x, y)) : tmAt l k = x := by unfold tmAt; rw [getD_at h]
theorem lv_of {l : List (Int × Int)} {k : Nat} {x y : Int} (h : l[k]? = some (x, y)) : lvAt l k = y := by unfold lvAt; rw [getD_at h]
def Asc (l : List (Int × Int)) : Prop := ∀ p q, p < q → q < l.length → tmAt l p < tmAt l q
theorem good_at {l : List (Int × Int)} {n : Nat} (h : goodK l n = true) {k : Nat} (hk : k < n) : stepB l k = true := by
  unfold goodK at h
  exact List.all_eq_true.1 h k (by simpa using hk)
theorem asc_of_good {l : List (Int × Int)} (h : goodK l l.length = true) : Asc l := by
  intro p q
  induction q with
  | zero => intro h; omega
  | succ q ih =>
    intro hpq hq
    have hs := good_at h hq
    unfold stepB at hs
    rw [Bool.and_eq_true] at hs
    have h2 : tmAt l q < tmAt l (q + 1) := by
      have := hs.2
      simpa [tmAt] using this
    rcases Nat.lt_or_ge p q with hlt | hge
    · exact Int.lt_trans (ih hlt (by omega)) h2
    · obtain rfl : p = q := by omega
      exact h2
theorem good_of_gauge {id : Int} {nm : ByteArray} {ze : Int} {l : List (Int × Int)} (h : gaugeB id nm ze l = true) : inB id 1 99 = true ∧ wordB nm = true ∧ inB ze (-1000) 1000 = true ∧ l.length ≤ 15 ∧ goodK l l.length = true := by
  unfold gaugeB readsB at h
  simp only [Bool.and_eq_true, decide_eq_true_eq] at h
  exact ⟨h.1.1.1, h.1.1.2, h.1.2, h.2.1, h.2.2⟩
theorem read_at {l : List (Int × Int)} {n k : Nat} (h : goodK l n = true) (hk : k < n) : (0 ≤ tmAt l k ∧ tmAt l k ≤ 10000) ∧ (-500 ≤ lvAt l k ∧ lvAt l k ≤ 2000) := by
  have hs := good_at h hk
  unfold stepB readP at hs
  simp only [Bool.and_eq_true] at hs
  exact ⟨inB_yes hs.1.1, inB_yes hs.1.2⟩
/-- i is the place of the first reading that is not before t. -/
def IsLb (l : List (Int × Int)) (t : Int) (i : Nat) : Prop := i ≤ l.length ∧ (∀ p, p < i → tmAt l p < t) ∧ ∀ p, i ≤ p → p < l.length → t ≤ tmAt l p
def lbK (l : List (Int × Int)) (t : Int) : Nat := l.findIdx fun p => decide (t ≤ p.1)
def atK (l : List (Int × Int)) (t : Int) : Nat := l.findIdx fun p => p.1 == t
theorem tm_get (l : List (Int × Int)) (k : Nat) (h : k < l.length) : tmAt l k = (l[k]).1 := by
  unfold tmAt
  rw [List.getD_eq_getElem?_getD, List.getElem?_eq_getElem h]; rfl
theorem findIdx_is {l : List (Int × Int)} {P : Int × Int → Bool} {i : Nat} (hi : i ≤ l.length) (h1 : ∀ p (h : p < l.length), p < i → P l[p] = false) (h2 : ∀ h : i < l.length, P l[i] = true) : l.findIdx P = i := by
  rcases Nat.lt_or_ge i l.length with h | h
  · rw [List.findIdx_eq h]
    exact ⟨h2 h, fun j hj => h1 j (by omega) hj⟩
  · obtain rfl : i = l.length := by omega
    rw [List.findIdx_eq_length]
    intro x hx
    obtain ⟨k, hk, rfl⟩ := List.getElem_of_mem hx
    exact h1 k hk hk
theorem lb_is {l : List (Int × Int)} {t : Int} {i : Nat} (h : IsLb l t i) : lbK l t = i := by
  refine findIdx_is h.1 (fun p hp hpi => ?_) (fun hi => ?_)
  · have := h.2.1 p hpi
    rw [tm_get l p hp] at this
    exact decide_eq_false (by omega)
  · have := h.2.2 i (Nat.le_refl _) hi
    rw [tm_get l i hi] at this
    exact decide_eq_true this
def hitB (l : List (Int × Int)) (t : Int) (i : Nat) : Bool := decide (i < l.length ∧ tmAt l i = t)
/-- Is there a reading at t? -/
def thereB (l : List (Int × Int)) (t : Int) : Bool := decide (atK l t < l.length)
theorem at_is {l : List (Int × Int)} {t : Int} {i : Nat} (hi : i ≤ l.length) (h1 : ∀ p, p < i → tmAt l p ≠ t) (h2 : i < l.length → tmAt l i = t) : atK l t = i := by
  refine findIdx_is hi (fun p hp hpi => ?_) (fun h => ?_)
  · have := h1 p hpi
    rw [tm_get l p hp] at this
    simpa using this
  · have := h2 h
    rw [tm_get l i h] at this
    simpa using this
theorem lb_hit {l : List (Int × Int)} {t : Int} {i : Nat} (h : IsLb l t i) (ht : hitB l t i = true) : atK l t = i ∧ thereB l t = true := by
  have h1 := of_decide_eq_true ht
  have e : atK l t = i := at_is h.1 (fun p hp => by have := h.2.1 p hp; omega) (fun _ => h1.2)
  exact ⟨e, by unfold thereB; rw [e]; exact decide_eq_true h1.1⟩
theorem lb_miss {l : List (Int × Int)} (ha : Asc l) {t : Int} {i : Nat} (h : IsLb l t i) (ht : hitB l t i = false) : thereB l t = false := by
  have h1 := of_decide_eq_false ht
  have e : atK l t = l.length := at_is (Nat.le_refl _) (fun p hp he => by
    rcases Nat.lt_or_ge p i with hlt | hge
    · have := h.2.1 p hlt; omega
    · rcases Nat.lt_or_ge i p with h2 | h2
      · have h3 := ha i p h2 hp
        have h4 := h.2.2 i (Nat.le_refl _) (by omega)
        omega
      · obtain rfl : p = i := by omega
        exact h1 ⟨hp, he⟩) (fun h => absurd h (by omega))
  unfold thereB; rw [e]; exact decide_eq_false (by omega)
theorem lb_there {l : List (Int × Int)} (ha : Asc l) {t : Int} {i : Nat} (h : IsLb l t i) : thereB l t = hitB l t i := by
  rcases hh : hitB l t i with _ | _
  · exact lb_miss ha h hh
  · exact (lb_hit h hh).2

/-! ### impl.placeOf -/
theorem cmpR_any (x y t : Int) (w : World) : Calls Try.prog 161 #[.agg #[.int .i64 x, .int .i64 y], .int .i64 t] w fun e w' => e = .returned (.int .i64 (sgn (x - t))) ∧ Below w.heap.size w w' := by
  go_enter Try.func161, Try.ntmps161
  go_wp2_with fail
  refine (cmp_any _ _ _).mono ?_
  rintro e w' ⟨rfl, rfl⟩
  go_wp2_with fail
  go_ret
  exact ⟨rfl, (Below.refl _ _).alloc (Nat.le_refl _) _⟩
theorem cmpR_v (x y t v : Int) (h : sgn (x - t) = v) (w : World) : Calls Try.prog 161 #[.agg #[.int .i64 x, .int .i64 y], .int .i64 t] w fun e w' => e = .returned (.int .i64 v) ∧ Below w.heap.size w w' := h ▸ cmpR_any x y t w
def PlacePost (l : List (Int × Int)) (t : Int) (w : World) (e : Ending) (w' : World) : Prop :=
  ∃ i : Nat, IsLb l t i ∧ e = .returned (.tuple #[.int .i64 i, .bool (hitB l t i)]) ∧ Below w.heap.size w w'
set_option maxRecDepth 100000 in
set_option maxHeartbeats 1600000 in
theorem search_any (A : Option Addr) (n c : Nat) (l : List (Int × Int)) (t : Int) (w : World) (hs : Spots w w.heap.size A n l) (hm : n ≤ 1048576) (ha : Asc l) :
    Calls Try.prog 160 #[.slice A n c, .int .i64 t, .func (.func 161) #[] #[]] w (PlacePost l t w) := by
  obtain rfl := hs.1
  have HA := Lib.hid ha
  clear ha
  go_enter Try.func160, Try.ntmps160
  go_wp2_with fail
  go_loopw [9, 10] (fun u v wr => ∃ i j : Nat, i ≤ j ∧ j ≤ l.length ∧ u = .int .i64 i ∧ v = .int .i64 j ∧ Hid ((∀ p, p < i → tmAt l p < t) ∧ ∀ p, j ≤ p → p < l.length → t ≤ tmAt l p) ∧ Hid (Below w.heap.size w wr)) (fun u v _ => (intOf v).toNat - (intOf u).toNat)
  case atStart => exact ⟨0, l.length, Nat.zero_le _, Nat.le_refl _, rfl, rfl, Lib.hid ⟨fun p h => absurd h (by omega), fun p h h' => absurd h (by omega)⟩, Lib.hid (Below.refl _ _)⟩
  case round =>
    obtain ⟨i, j, hij, hj, rfl, rfl, hI, hB⟩ := hrel
    by_cases hlt : i < j
    · obtain ⟨m, e, h1, h2⟩ : ∃ m : Nat, ((i : Int) + j) / 2 = m ∧ i ≤ m ∧ m < j := ⟨(i + j) / 2, by omega, by omega, by omega⟩
      obtain ⟨b, o, x, y, rfl, hb, hl, hc0, hc1⟩ := (hs.on hB.out (Nat.le_refl _)).2 m (by omega)
      have HT := Lib.hid (tm_of hl)
      clear hl
      by_cases hx : x < t
      · have HV := Lib.hid (sgn_neg (n := x - t) (by omega))
        have HN : Hid ((∀ p, p < m + 1 → tmAt l p < t) ∧ ∀ p, j ≤ p → p < l.length → t ≤ tmAt l p) := Lib.hid ⟨fun p hp => by
          rcases Nat.lt_or_ge p m with h | h
          · have := HA.out p m h (by omega); rw [HT.out] at this; omega
          · obtain rfl : p = m := by omega
            rw [HT.out]; exact hx, hI.out.2⟩
        go_wp2_with fail
        refine (cmpR_v x y t _ HV.out _).mono ?_
        rintro e' w1 ⟨rfl, hb⟩
        have HB := Lib.hid (bthen hB.out hb hB.out.size)
        clear hb hc0 hc1
        go_wp2_with fail
        go_roundw
        case rel => exact ⟨m + 1, j, by omega, hj, by go_num, rfl, HN, HB⟩
        case measure => simp [intOf]; omega
      · have HN : Hid ((∀ p, p < i → tmAt l p < t) ∧ ∀ p, m ≤ p → p < l.length → t ≤ tmAt l p) := Lib.hid ⟨hI.out.1, fun p hp hpl => by
          rcases Nat.lt_or_ge m p with h | h
          · have := HA.out m p h hpl; rw [HT.out] at this; omega
          · obtain rfl : p = m := by omega
            rw [HT.out]; omega⟩
        rcases Int.lt_or_eq_of_le (show t ≤ x by omega) with hy | rfl
        · have HV := Lib.hid (sgn_pos (n := x - t) (by omega))
          go_wp2_with fail
          refine (cmpR_v x y t _ HV.out _).mono ?_
          rintro e' w1 ⟨rfl, hb⟩
          have HB := Lib.hid (bthen hB.out hb hB.out.size)
          clear hb hc0 hc1
          go_wp2_with fail
          go_roundw
          case rel => exact ⟨i, m, by omega, by omega, rfl, rfl, HN, HB⟩
          case measure => simp [intOf]; omega
        · have HV := Lib.hid (sgn_zero (n := t - t) (by omega))
          go_wp2_with fail
          refine (cmpR_v t y t _ HV.out _).mono ?_
          rintro e' w1 ⟨rfl, hb⟩
          have HB := Lib.hid (bthen hB.out hb hB.out.size)
          clear hb hc0 hc1
          go_wp2_with fail
          go_roundw
          case rel => exact ⟨i, m, by omega, by omega, rfl, rfl, HN, HB⟩
          case measure => simp [intOf]; omega
    · obtain rfl : i = j := by omega
      have HI : Hid (IsLb l t i) := Lib.hid ⟨hj, hI.out.1, hI.out.2⟩
      clear hI
      by_cases hn : i < l.length
      · obtain ⟨b, o, x, y, rfl, hb, hl, hc0, hc1⟩ := (hs.on hB.out (Nat.le_refl _)).2 i hn
        have HT := Lib.hid (tm_of hl)
        clear hl
        by_cases hx : x = t
        · subst hx
          have HV := Lib.hid (sgn_zero (n := x - x) (by omega))
          have HR : Hid (hitB l x i = true) := decide_eq_true ⟨hn, HT.out⟩
          go_wp2_with fail
          refine (cmpR_v x y x _ HV.out _).mono ?_
          rintro e' w1 ⟨rfl, hb⟩
          have HB := Lib.hid (bthen hB.out hb hB.out.size)
          clear hb hc0 hc1
          go_wp2_with fail
          go_ret2
          exact ⟨i, HI.out, by rw [HR.out]; rfl, HB.out⟩
        · have HR : Hid (hitB l t i = false) := decide_eq_false (fun h => hx (HT.out ▸ h.2))
          rcases Int.lt_or_gt_of_ne hx with hy | hy
          · have HV := Lib.hid (sgn_neg (n := x - t) (by omega))
            clear hx
            go_wp2_with fail
            refine (cmpR_v x y t _ HV.out _).mono ?_
            rintro e' w1 ⟨rfl, hb⟩
            have HB := Lib.hid (bthen hB.out hb hB.out.size)
            clear hb hc0 hc1
            go_wp2_with fail
            go_ret2
            exact ⟨i, HI.out, by rw [HR.out]; rfl, HB.out⟩
          · have HV := Lib.hid (sgn_pos (n := x - t) (by omega))
            clear hx
            go_wp2_with fail
            refine (cmpR_v x y t _ HV.out _).mono ?_
            rintro e' w1 ⟨rfl, hb⟩
            have HB := Lib.hid (bthen hB.out hb hB.out.size)
            clear hb hc0 hc1
            go_wp2_with fail
            go_ret2
            exact ⟨i, HI.out, by rw [HR.out]; rfl, HB.out⟩
      · have HR : Hid (hitB l t i = false) := decide_eq_false (fun h => hn h.1)
        go_wp2_with fail
        go_ret2
        exact ⟨i, HI.out, by rw [HR.out]; rfl, hB.out⟩
theorem placeOf_any (A : Option Addr) (n c : Nat) (l : List (Int × Int)) (t : Int) (w : World) (hs : Spots w w.heap.size A n l) (hm : n ≤ 1048576) (ha : Asc l) :
    Calls Try.prog 95 #[.slice A n c, .int .i64 t] w (PlacePost l t w) := by
  have H := Lib.hid (search_any A n c l t w hs hm ha)
  clear hs ha
  go_enter Try.func95, Try.ntmps95
  go_wp2_with fail
  refine H.out.mono ?_
  rintro e w1 ⟨i, hi, rfl, hb⟩
  have HI := Lib.hid hi
  have HB := Lib.hid hb
  clear hi hb
  go_wp2_with fail
  go_ret2
  exact ⟨i, HI.out, rfl, HB.out⟩
end Go.Proofs.Ytdmnkmdlochogaa
