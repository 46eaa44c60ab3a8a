/-
  Where a craft with an Id lies, a copy of a row: contracts of impl.craftWith and the search below it, slices.Clone at craft over this translation. Conditions: stated at each theorem.
-/
import Derived.Test.YtfffahkommbheaaVr
import Derived.Test.YtfffahkommbheaaVx
import Derived.Test.YtfffahkommbheaaCm
import Derived.Lib.SliceRun
namespace Go.Proofs.Ytfffahkommbheaa
open Go.RowKit

theorem cmpC_any (v : CC) (t : Int) (w : World) : Calls Try.prog 131 #[.agg #[.int .i64 v.id, .string v.nm, .int .i64 v.dr, .int .i64 v.ah, .int .i64 v.be, .int .i64 v.sp, .int .i64 v.fu], .int .i64 t] w fun e w' => e = .returned (.int .i64 (sgn (v.id - t))) ∧ Below w.heap.size w w' := by
  go_enter Try.func131, Try.ntmps131
  go_wp2_with fail
  refine (cmp_any _ _ _).mono ?_
  rintro e w' ⟨rfl, rfl⟩
  go_wp2_with fail
  go_ret
  exact ⟨rfl, (Below.refl _ _).alloc (Nat.le_refl _) _⟩
theorem cmpC_v (v : CC) (t x : Int) (h : sgn (v.id - t) = x) (w : World) : Calls Try.prog 131 #[.agg #[.int .i64 v.id, .string v.nm, .int .i64 v.dr, .int .i64 v.ah, .int .i64 v.be, .int .i64 v.sp, .int .i64 v.fu], .int .i64 t] w fun e w' => e = .returned (.int .i64 x) ∧ Below w.heap.size w w' := h ▸ cmpC_any v t w
def AscC (L : List CC) : Prop := ∀ p q, p < q → q < L.length → (cOf L p).id < (cOf L q).id
theorem asc_of_areC {L : List CC} (h : areC L = true) : AscC L := by
  intro p q
  induction q with
  | zero => intro h; omega
  | succ q ih =>
    intro hpq hq
    obtain ⟨v, hv⟩ : ∃ v, L[q]? = some v := ⟨_, List.getElem?_eq_getElem (by omega)⟩
    obtain ⟨v', hv'⟩ : ∃ v, L[q + 1]? = some v := ⟨_, List.getElem?_eq_getElem hq⟩
    have h2 := areC_asc h hv hv'
    rw [← cOf_at hv, ← cOf_at hv'] at h2
    rcases Nat.lt_or_ge p q with hlt | hge
    · have := ih hlt (by omega); omega
    · obtain rfl : p = q := by omega
      exact h2
def IsLbC (L : List CC) (t : Int) (i : Nat) : Prop := i ≤ L.length ∧ (∀ p, p < i → (cOf L p).id < t) ∧ ∀ p, i ≤ p → p < L.length → t ≤ (cOf L p).id
def hitC (L : List CC) (t : Int) (i : Nat) : Bool := decide (i < L.length ∧ (cOf L i).id = t)
def CPost (L : List CC) (t : Int) (w : World) (e : Ending) (w' : World) : Prop :=
  ∃ i : Nat, IsLbC L t i ∧ e = .returned (.tuple #[.int .i64 i, .bool (hitC L t i)]) ∧ Below w.heap.size w w'
set_option maxRecDepth 100000 in
set_option maxHeartbeats 1600000 in
theorem searchC_any (A : Option Addr) (n c : Nat) (L : List CC) (t : Int) (w : World) (hs : Crafts w w.heap.size A n L) (hm : n ≤ 1048576) (ha : AscC L) :
    Calls Try.prog 130 #[.slice A n c, .int .i64 t, .func (.func 131) #[] #[]] w (CPost L t w) := by
  obtain rfl := hs.1
  have HS := Lib.hid hs
  clear hs
  have HA := Lib.hid ha
  clear ha
  go_enter Try.func130, Try.ntmps130
  go_wp2_with fail
  go_loopw [9, 10] (fun u v wr => ∃ i j : Nat, i ≤ j ∧ j ≤ L.length ∧ u = .int .i64 i ∧ v = .int .i64 j ∧ Hid ((∀ p, p < i → (cOf L p).id < t) ∧ ∀ p, j ≤ p → p < L.length → t ≤ (cOf L p).id) ∧ Hid (Below w.heap.size w wr)) (fun u v _ => (intOf v).toNat - (intOf u).toNat)
  case atStart => exact ⟨0, L.length, Nat.zero_le _, Nat.le_refl _, rfl, rfl, Lib.hid ⟨fun p h => absurd h (by omega), fun p h h' => absurd h (by omega)⟩, Lib.hid (Below.refl _ _)⟩
  case round =>
    obtain ⟨i, j, hij, hj, rfl, rfl, hI, hB⟩ := hrel
    by_cases hlt : i < j
    · obtain ⟨m, e, h1, h2⟩ : ∃ m : Nat, ((i : Int) + j) / 2 = m ∧ i ≤ m ∧ m < j := ⟨(i + j) / 2, by omega, by omega, by omega⟩
      obtain ⟨b, o, v, rfl, hb, hl, hn, c0, c1, c2, c3, c4, c5, c6⟩ := (crafts_at HS.out hB.out).2 m (by omega)
      have HT := Lib.hid (cOf_at hl)
      clear hl hn
      by_cases hx : v.id < t
      · have HV := Lib.hid (sgn_neg (n := v.id - t) (by omega))
        have HN : Hid ((∀ p, p < m + 1 → (cOf L p).id < t) ∧ ∀ p, j ≤ p → p < L.length → t ≤ (cOf L p).id) := Lib.hid ⟨fun p hp => by
          rcases Nat.lt_or_ge p m with h | h
          · have := HA.out p m h (by omega); rw [HT.out] at this; omega
          · obtain rfl : p = m := by omega
            rw [HT.out]; exact hx, hI.out.2⟩
        go_wp2_with fail
        refine (cmpC_v v t _ HV.out _).mono ?_
        rintro e' w1 ⟨rfl, hb⟩
        have HB := Lib.hid (bthen hB.out hb hB.out.size)
        clear hb c0 c1 c2 c3 c4 c5 c6
        go_wp2_with fail
        go_roundw
        case rel => exact ⟨m + 1, j, by omega, hj, by go_num, rfl, HN, HB⟩
        case measure => simp [intOf]; omega
      · have HN : Hid ((∀ p, p < i → (cOf L p).id < t) ∧ ∀ p, m ≤ p → p < L.length → t ≤ (cOf L p).id) := Lib.hid ⟨hI.out.1, fun p hp hpl => by
          rcases Nat.lt_or_ge m p with h | h
          · have := HA.out m p h hpl; rw [HT.out] at this; omega
          · obtain rfl : p = m := by omega
            rw [HT.out]; omega⟩
        rcases Int.lt_or_eq_of_le (show t ≤ v.id by omega) with hy | hy
        · have HV := Lib.hid (sgn_pos (n := v.id - t) (by omega))
          go_wp2_with fail
          refine (cmpC_v v t _ HV.out _).mono ?_
          rintro e' w1 ⟨rfl, hb⟩
          have HB := Lib.hid (bthen hB.out hb hB.out.size)
          clear hb c0 c1 c2 c3 c4 c5 c6
          go_wp2_with fail
          go_roundw
          case rel => exact ⟨i, m, by omega, by omega, rfl, rfl, HN, HB⟩
          case measure => simp [intOf]; omega
        · have HV := Lib.hid (sgn_zero (n := v.id - t) (by omega))
          clear hy hx
          go_wp2_with fail
          refine (cmpC_v v t _ HV.out _).mono ?_
          rintro e' w1 ⟨rfl, hb⟩
          have HB := Lib.hid (bthen hB.out hb hB.out.size)
          clear hb c0 c1 c2 c3 c4 c5 c6
          go_wp2_with fail
          go_roundw
          case rel => exact ⟨i, m, by omega, by omega, rfl, rfl, HN, HB⟩
          case measure => simp [intOf]; omega
    · obtain rfl : i = j := by omega
      have HI : Hid (IsLbC L t i) := Lib.hid ⟨hj, hI.out.1, hI.out.2⟩
      clear hI
      by_cases hn : i < L.length
      · obtain ⟨b, o, v, rfl, hb, hl, hn', c0, c1, c2, c3, c4, c5, c6⟩ := (crafts_at HS.out hB.out).2 i hn
        have HT := Lib.hid (cOf_at hl)
        clear hl hn'
        by_cases hx : v.id = t
        · have HV := Lib.hid (sgn_zero (n := v.id - t) (by omega))
          have HR : Hid (hitC L t i = true) := decide_eq_true ⟨hn, HT.out ▸ hx⟩
          clear hx
          go_wp2_with fail
          refine (cmpC_v v t _ HV.out _).mono ?_
          rintro e' w1 ⟨rfl, hb⟩
          have HB := Lib.hid (bthen hB.out hb hB.out.size)
          clear hb c0 c1 c2 c3 c4 c5 c6
          go_wp2_with fail
          go_ret2
          exact ⟨i, HI.out, by rw [HR.out]; rfl, HB.out⟩
        · have HR : Hid (hitC L t i = false) := decide_eq_false (fun h => hx (HT.out ▸ h.2))
          rcases Int.lt_or_gt_of_ne hx with hy | hy
          · have HV := Lib.hid (sgn_neg (n := v.id - t) (by omega))
            clear hx
            go_wp2_with fail
            refine (cmpC_v v t _ HV.out _).mono ?_
            rintro e' w1 ⟨rfl, hb⟩
            have HB := Lib.hid (bthen hB.out hb hB.out.size)
            clear hb c0 c1 c2 c3 c4 c5 c6
            go_wp2_with fail
            go_ret2
            exact ⟨i, HI.out, by rw [HR.out]; rfl, HB.out⟩
          · have HV := Lib.hid (sgn_pos (n := v.id - t) (by omega))
            clear hx
            go_wp2_with fail
            refine (cmpC_v v t _ HV.out _).mono ?_
            rintro e' w1 ⟨rfl, hb⟩
            have HB := Lib.hid (bthen hB.out hb hB.out.size)
            clear hb c0 c1 c2 c3 c4 c5 c6
            go_wp2_with fail
            go_ret2
            exact ⟨i, HI.out, by rw [HR.out]; rfl, HB.out⟩
      · have HR : Hid (hitC L t i = false) := decide_eq_false (fun h => hn h.1)
        go_wp2_with fail
        go_ret2
        exact ⟨i, HI.out, by rw [HR.out]; rfl, hB.out⟩
theorem craftWith_any (A : Option Addr) (n c : Nat) (L : List CC) (t : Int) (w : World) (hs : Crafts w w.heap.size A n L) (hm : n ≤ 1048576) (ha : AscC L) :
    Calls Try.prog 85 #[.slice A n c, .int .i64 t] w (CPost L t w) := by
  have H := Lib.hid (searchC_any A n c L t w hs hm ha)
  clear hs ha
  go_enter Try.func85, Try.ntmps85
  go_wp2_with fail
  refine H.out.mono ?_
  rintro e w1 ⟨i, hi, rfl, hb⟩
  have HI := Lib.hid hi
  have HB := Lib.hid hb
  clear hi hb
  go_wp2_with fail
  go_ret2
  exact ⟨i, HI.out, rfl, HB.out⟩
/-! ### slices.Clone -/
def CloneC (L : List CC) (w : World) (e : Ending) (w' : World) : Prop :=
  ∃ g c, e = .returned (.slice (some ⟨g, 0, none⟩) L.length c) ∧ FillC w' w.heap.size g L.length L.length L ∧ Below w.heap.size w w'
set_option maxRecDepth 100000 in
set_option maxHeartbeats 1600000 in
theorem cloneC_any (A : Option Addr) (n c : Nat) (L : List CC) (w : World) (hs : Crafts w w.heap.size A n L) (h0 : 0 < n) (hm : n ≤ 1000) :
    Calls Try.prog 86 #[.slice A n c] w (CloneC L w) := by
  obtain ⟨i0, hi, hz0, hz1, hz2⟩ := info_parts infoCraft
  have HI := Lib.hid (And.intro hi (And.intro hz0 (And.intro hz1 hz2)))
  clear hi hz0 hz1 hz2
  have hbox : Below w.heap.size w (w.alloc (.cells #[] 31)) := (Below.refl _ w).alloc (Nat.le_refl _) _
  obtain ⟨a, rfl, hcs⟩ := crafts_cells (crafts_at hs hbox) h0
  obtain rfl := hs.1
  have HA := Lib.hid hcs
  have HC := Lib.hid (col_start (w := w) 31 7 (Below.refl _ w))
  clear hs hcs hbox
  have heq := Lib.run_eql_slice_nil (P := Try.prog) w 24 31 (some a) L.length c 0 0 Try.underlying24
  go_enter Try.func86, Try.ntmps86
  go_wp2_with (at_builtin; go_loud (refine wpList_append_own _ rfl _ _ 24 rfl w.heap.size 31 i0 (.agg #[.int .i64 0, .string ⟨#[]⟩, .int .i64 0, .int .i64 0, .int .i64 0, .int .i64 0, .int .i64 0]) 7 64 Try.underlying24 HI.out.1 HI.out.2.1 HI.out.2.2.1 HI.out.2.2.2 rfl (by decide) _ _ _ rfl HC.out.1 a L.length c (cellsC L) rfl (cellsC_len L) HA.out (cellsC_one L) (by unfold maxLen; omega) (by omega) (by simp) ?_; intro v' w5 hown' hgrow _; have HN := Lib.hid (HC.out.grow hown' hgrow); clear hown' hgrow))
  have hn3 := HN.out
  rw [Nat.zero_add, List.nil_append] at hn3
  obtain ⟨g, cc, rfl, hF⟩ := row_fill hn3.1 h0 rfl
  have HP : Hid (CloneC L w (.returned (.slice (some ⟨g, 0, none⟩) L.length cc)) w5) := Lib.hid ⟨g, cc, rfl, hF, hn3.2⟩
  clear hn3 hF
  go_ret
  exact HP.out
end Go.Proofs.Ytfffahkommbheaa
