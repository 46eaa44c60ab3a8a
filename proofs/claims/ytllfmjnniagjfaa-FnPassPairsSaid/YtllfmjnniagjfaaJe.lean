/-
  A pass put in its place, the program: contracts of slices.Grow, slices.Concat at three rows of passes, slices.BinarySearchFunc over passes, impl.PutPass over this translation. Conditions: stated at each theorem.
-/
import Derived.Test.YtllfmjnniagjfaaJa
import Derived.Test.YtllfmjnniagjfaaJx
import Derived.Test.YtllfmjnniagjfaaCm
import Derived.Lib.AppendZerosOnto
import Derived.Deep.DeepCutAuto
namespace Go.Proofs.Ytllfmjnniagjfaa
open Go.RowKit
set_option linter.unusedVariables false

theorem cellsS_catJ (a b : List PS) : cellsSJ (a ++ b) = cellsSJ a ++ cellsSJ b := by simp [cellsSJ]
/-- A new row with room, nothing in it. -/
def GrownPJ (w : World) (e : Ending) (w' : World) : Prop :=
  ∃ cap, e = .returned (.slice (some ⟨w.heap.size, 0, none⟩) 0 cap) ∧ w'.ownsRow w.heap.size 40 6 (.slice (some ⟨w.heap.size, 0, none⟩) 0 cap) 0 [] ∧ Below w.heap.size w w'
set_option maxHeartbeats 1600000 in
theorem growJ_any (n : Nat) (w : World) (h0 : 0 < n) (hn : n ≤ 1000) :
    Calls Try.prog 103 #[.slice none 0 0, .int .i64 n] w (GrownPJ w) := by
  obtain ⟨i0, hi, hz0, hz1, hz2⟩ := info_parts infoSoundJ
  have hrz : ∀ ty, (Builtin.append_ #[24, 3] ty #[.slice none 0 0, .int .i64 (n : Int)]).run Try.prog w =
      .ok (.slice (some ⟨w.heap.size, 0, none⟩) (0 + n) (grownCap w (0 + n) 0 40)) (w.drew.alloc (.cells (#[] ++ Builtin.zeroCells (Value.agg #[.int .i64 0, .int .i64 0, .int .i64 0, .int .i64 0, .int .i64 0, .int .i64 0]).cells n ++ Builtin.zeroCells (Value.agg #[.int .i64 0, .int .i64 0, .int .i64 0, .int .i64 0, .int .i64 0, .int .i64 0]).cells (grownCap w (0 + n) 0 40 - (0 + n))) 40)) := fun ty =>
    Lib.run_append_grow_zeros w 24 3 ty 40 i0 _ .i64 .i64 Try.underlying24 Try.underlying3 hi hz0 none 0 0 [] (run_firstCells_none w.drew i0.size 0 0 0) n h0 (by rw [hz1]; decide) (by omega) (by omega) (by rw [hz2]; omega)
      (by rw [hz2]; exact growslice_fits (by omega) (by omega))
  obtain ⟨C, hC⟩ : ∃ C, C = #[] ++ Builtin.zeroCells (Value.agg #[.int .i64 0, .int .i64 0, .int .i64 0, .int .i64 0, .int .i64 0, .int .i64 0]).cells n ++ Builtin.zeroCells (Value.agg #[.int .i64 0, .int .i64 0, .int .i64 0, .int .i64 0, .int .i64 0, .int .i64 0]).cells (grownCap w (0 + n) 0 40 - (0 + n)) := ⟨_, rfl⟩
  have hGn : 0 + n ≤ grownCap w (0 + n) 0 40 := grownCap_ge w _ _ _
  have hGm : grownCap w (0 + n) 0 40 ≤ maxLen := grownCap_le_maxLen w (0 + n) 0 40 (by unfold maxLen; omega)
  obtain ⟨G, hG⟩ : ∃ G, G = grownCap w (0 + n) 0 40 := ⟨_, rfl⟩
  rw [← hG] at hC hGn hGm
  rw [← hG] at hrz
  rw [← hC] at hrz
  have hsz : C.size = G * 6 := by
    rw [hC]
    simp [size_zeroCells, Value.cells]
    omega
  have HP : Hid (GrownPJ w (.returned (.slice (some ⟨w.heap.size, 0, none⟩) 0 G)) (w.drew.alloc (.cells C 40))) :=
    Lib.hid ⟨G, rfl, World.ownsRow_made w.drew C G (Nat.le_refl _) hGm hsz, ((Below.refl _ _).drew).alloc (Nat.le_refl _) _⟩
  rw [Nat.zero_add] at hrz
  have hG63 : G ≤ 9223372036854775807 := by unfold maxLen at hGm; omega
  clear hC hG hsz hGm hi hz0 hz1 hz2
  go_enter Try.func103, Try.ntmps103
  go_wp2_with (at_builtin; refine Lib.wpList_append_run _ rfl _ _ _ _ rfl _ _ rfl rfl _ _ (hrz _) ?_)
  go_ret
  exact HP.out
/-! ### slices.Concat -/
def CSJ (w : World) (L : List PS) (v : Value) (wr : World) : Prop := wr.ownsRow w.heap.size 40 6 v L.length (cellsSJ L) ∧ Below w.heap.size w wr
theorem csJ_step {w wr w5 : World} {L l : List PS} {v v' : Value} (h : CSJ w L v wr) (ho : w5.ownsRow w.heap.size 40 6 v' (L.length + l.length) (cellsSJ L ++ cellsSJ l)) (hg : wr.grownBy w5 v.ownBlock) : CSJ w (L ++ l) v' w5 :=
  ⟨by rw [List.length_append, cellsS_catJ]; exact ho, h.2.grown hg h.2.size (fun k e => (h.1.lt k e).1)⟩
def CatPJ (l : List PS) (w : World) (e : Ending) (w' : World) : Prop :=
  ∃ v, e = .returned v ∧ w'.ownsRow w.heap.size 40 6 v l.length (cellsSJ l) ∧ Below w.heap.size w w'
set_option maxRecDepth 20000 in
set_option maxHeartbeats 3200000 in
theorem concatJ_any (p : Nat) (a1 a2 a3 : Addr) (l1 l2 l3 : List PS) (c1 c2 c3 cp : Nat) (w : World) (h0 : w.cell? ⟨p, 0, none⟩ = some (.slice (some a1) l1.length c1)) (h1 : w.cell? ⟨p, 1, none⟩ = some (.slice (some a2) l2.length c2)) (h2 : w.cell? ⟨p, 2, none⟩ = some (.slice (some a3) l3.length c3))
    (hp1 : Part6 w a1 l1) (hp2 : Part6 w a2 l2) (hp3 : Part6 w a3 l3) (hn : l1.length + l2.length + l3.length ≤ 1000) (hpos : 0 < l1.length + l2.length + l3.length) :
    Calls Try.prog 92 #[.slice (some ⟨p, 0, none⟩) 3 cp] w (CatPJ (l1 ++ l2 ++ l3) w) := by
  obtain ⟨i0, hi, hz0, hz1, hz2⟩ := info_parts infoSoundJ
  have HI := Lib.hid (And.intro hi (And.intro hz0 (And.intro hz1 hz2)))
  clear hi hz0 hz1 hz2
  have HP1 := Lib.hid hp1
  have HP2 := Lib.hid hp2
  have HP3 := Lib.hid hp3
  clear hp1 hp2 hp3
  go_enter Try.func92, Try.ntmps92
  go_wp2_with fail
  go_loop [3, 11] (fun s i => (i = .int .i64 0 ∧ s = .int .i64 0) ∨ (i = .int .i64 1 ∧ s = .int .i64 (l1.length : Int)) ∨ (i = .int .i64 2 ∧ s = .int .i64 ((l1.length : Int) + l2.length)) ∨ (i = .int .i64 3 ∧ s = .int .i64 ((l1.length : Int) + l2.length + l3.length))) (fun _ i => 3 - (intOf i).toNat)
  case atStart => exact .inl ⟨rfl, rfl⟩
  case round =>
    rcases hrel with ⟨rfl, rfl⟩ | ⟨rfl, rfl⟩ | ⟨rfl, rfl⟩ | ⟨rfl, rfl⟩
    · go_wp2_with fail
      go_round
      case rel => exact .inr (.inl ⟨rfl, by first | rfl | simp⟩)
      case measure => simp [intOf]
    · go_wp2_with fail
      go_round
      case rel => exact .inr (.inr (.inl ⟨rfl, rfl⟩))
      case measure => simp [intOf]
    · go_wp2_with fail
      go_round
      case rel => exact .inr (.inr (.inr ⟨rfl, rfl⟩))
      case measure => simp [intOf]
    · have e3 : (l1.length : Int) + l2.length + l3.length = ((l1.length + l2.length + l3.length : Nat) : Int) := by omega
      rw [e3]
      have HG := Lib.hid (growJ_any (l1.length + l2.length + l3.length) w hpos hn)
      clear e3
      go_wp2_with fail
      refine HG.out.mono ?_
      rintro e w1 ⟨cap, rfl, hown, hb⟩
      have HO := Lib.hid hown
      have HB := Lib.hid hb
      clear hown hb
      go_wp2_with fail
      have HC0 : Hid (CSJ w [] (.slice (some ⟨w.heap.size, 0, none⟩) 0 cap) w1) := Lib.hid ⟨HO.out, HB.out⟩
      go_loopw [6, 27] (fun s i wr => (i = .int .i64 0 ∧ Hid (CSJ w [] s wr)) ∨ (i = .int .i64 1 ∧ Hid (CSJ w l1 s wr)) ∨ (i = .int .i64 2 ∧ Hid (CSJ w (l1 ++ l2) s wr)) ∨ (i = .int .i64 3 ∧ Hid (CSJ w (l1 ++ l2 ++ l3) s wr))) (fun _ i _ => 3 - (intOf i).toNat)
      case atStart => exact .inl ⟨rfl, HC0⟩
      case round =>
        rcases hrel with ⟨rfl, HC⟩ | ⟨rfl, HC⟩ | ⟨rfl, HC⟩ | ⟨rfl, HC⟩
        · have h0' := cell_next HC.out.2 h0
          go_wp2_with (at_builtin; go_loud (refine wpList_append_own _ rfl _ _ 24 rfl w.heap.size 40 i0 (.agg #[.int .i64 0, .int .i64 0, .int .i64 0, .int .i64 0, .int .i64 0, .int .i64 0]) 6 48 Try.underlying24 HI.out.1 HI.out.2.1 HI.out.2.2.1 HI.out.2.2.2 rfl (by decide) _ _ _ rfl HC.out.1 a1 l1.length c1 (cellsSJ l1) rfl (cellsS_lenJ l1) (HP1.out.next HC.out.2) (cells_one6 l1) (by simp only [List.length_nil]; unfold maxLen; omega) (by simp only [List.length_nil]; omega) HC.out.2.size ?_; intro v' w5 hown' hgrow _; have HN := Lib.hid (csJ_step HC.out hown' hgrow); clear hown' hgrow))
          go_roundw
          case rel => exact .inr (.inl ⟨rfl, HN⟩)
          case measure => simp [intOf]
        · have h1' := cell_next HC.out.2 h1
          go_wp2_with (at_builtin; go_loud (refine wpList_append_own _ rfl _ _ 24 rfl w.heap.size 40 i0 (.agg #[.int .i64 0, .int .i64 0, .int .i64 0, .int .i64 0, .int .i64 0, .int .i64 0]) 6 48 Try.underlying24 HI.out.1 HI.out.2.1 HI.out.2.2.1 HI.out.2.2.2 rfl (by decide) _ _ _ rfl HC.out.1 a2 l2.length c2 (cellsSJ l2) rfl (cellsS_lenJ l2) (HP2.out.next HC.out.2) (cells_one6 l2) (by unfold maxLen; omega) (by omega) HC.out.2.size ?_; intro v' w5 hown' hgrow _; have HN := Lib.hid (csJ_step HC.out hown' hgrow); clear hown' hgrow))
          go_roundw
          case rel => exact .inr (.inr (.inl ⟨rfl, HN⟩))
          case measure => simp [intOf]
        · have h2' := cell_next HC.out.2 h2
          go_wp2_with (at_builtin; go_loud (refine wpList_append_own _ rfl _ _ 24 rfl w.heap.size 40 i0 (.agg #[.int .i64 0, .int .i64 0, .int .i64 0, .int .i64 0, .int .i64 0, .int .i64 0]) 6 48 Try.underlying24 HI.out.1 HI.out.2.1 HI.out.2.2.1 HI.out.2.2.2 rfl (by decide) _ _ _ rfl HC.out.1 a3 l3.length c3 (cellsSJ l3) rfl (cellsS_lenJ l3) (HP3.out.next HC.out.2) (cells_one6 l3) (by simp only [List.length_append]; unfold maxLen; omega) (by simp only [List.length_append]; omega) HC.out.2.size ?_; intro v' w5 hown' hgrow _; have HN := Lib.hid (csJ_step HC.out hown' hgrow); clear hown' hgrow))
          go_roundw
          case rel => exact .inr (.inr (.inr ⟨rfl, HN⟩))
          case measure => simp [intOf]
        · go_wp2_with fail
          go_ret
          exact ⟨_, rfl, HC.out.1, HC.out.2⟩
/-! ### Where a begin has its place -/
def IsLbJ (L : List PS) (t : Int) (i : Nat) : Prop := i ≤ L.length ∧ (∀ p, p < i → (psAt L p).bg < t) ∧ ∀ p, i ≤ p → p < L.length → t ≤ (psAt L p).bg
def AscJ (L : List PS) : Prop := ∀ p q, p < q → q < L.length → (psAt L p).bg < (psAt L q).bg
theorem ascJ_good {L : List PS} (h : Good11 L) : AscJ L := fun p q hpq hq => by
  have h1 := ps_before h hpq hq
  have h2 := (h.one p (by omega)).be
  omega
theorem lbJ_is {L : List PS} {t : Int} {i : Nat} (h : IsLbJ L t i) : ppK L t = i := ppK_is h.1 h.2.1 (fun hi => h.2.2 i (Nat.le_refl _) hi)
theorem cmpJ_any (v : PS) (t r : Int) (h : sgn (v.bg - t) = r) (w : World) : Calls Try.prog 90 #[.agg #[.int .i64 v.ln, .int .i64 v.bg, .int .i64 v.en, .int .i64 v.pi, .int .i64 v.bd, .int .i64 v.co], .int .i64 t] w fun e w' => e = .returned (.int .i64 r) ∧ Below w.heap.size w w' := by
  have H := Lib.hid h
  clear h
  go_enter Try.func90, Try.ntmps90
  go_wp2_with fail
  refine (cmp_any _ _ _).mono ?_
  rintro e w' ⟨rfl, rfl⟩
  rw [H.out]
  go_wp2_with fail
  go_ret
  exact ⟨rfl, (Below.refl _ _).alloc (Nat.le_refl _) _⟩
def PlaceJ (L : List PS) (t : Int) (w : World) (e : Ending) (w' : World) : Prop :=
  ∃ (i : Nat) (r : Bool), IsLbJ L t i ∧ e = .returned (.tuple #[.int .i64 i, .bool r]) ∧ Below w.heap.size w w'
set_option maxRecDepth 100000 in
set_option maxHeartbeats 1600000 in
theorem searchJ_any (A : Option Addr) (n c : Nat) (L : List PS) (t : Int) (w : World) (hs : SdsJ w w.heap.size A n L) (hm : n ≤ 1048576) (ha : AscJ L) :
    Calls Try.prog 89 #[.slice A n c, .int .i64 t, .func (.func 90) #[] #[]] w (PlaceJ L t w) := by
  obtain rfl := hs.1
  have HA := Lib.hid ha
  have HS := Lib.hid hs
  clear ha hs
  go_enter Try.func89, Try.ntmps89
  go_wp2_with fail
  go_loopw [9, 10] (fun u v wr => ∃ i j : Nat, i ≤ j ∧ j ≤ L.length ∧ u = .int .i64 i ∧ v = .int .i64 j ∧ Hid ((∀ p, p < i → (psAt L p).bg < t) ∧ ∀ p, j ≤ p → p < L.length → t ≤ (psAt L p).bg) ∧ Hid (Below w.heap.size w wr)) (fun u v _ => (intOf v).toNat - (intOf u).toNat)
  case atStart => exact ⟨0, L.length, Nat.zero_le _, Nat.le_refl _, rfl, rfl, Lib.hid ⟨fun p h => absurd h (by omega), fun p h h' => absurd h (by omega)⟩, Lib.hid (Below.refl _ _)⟩
  case round =>
    obtain ⟨i, j, hij, hj, rfl, rfl, hI, hB⟩ := hrel
    by_cases hlt : i < j
    · obtain ⟨m, e, h1, h2⟩ : ∃ m : Nat, ((i : Int) + j) / 2 = m ∧ i ≤ m ∧ m < j := ⟨(i + j) / 2, by omega, by omega, by omega⟩
      obtain ⟨b, o, v, rfl, hb, hl, c0, c1, c2, c3, c4, c5⟩ := (sds_atJ HS.out hB.out).2 m (by omega)
      have HT := Lib.hid (psAt_at hl)
      clear hl hb
      by_cases hx : v.bg < t
      · have HV := Lib.hid (sgn_neg (n := v.bg - t) (by omega))
        have HN : Hid ((∀ p, p < m + 1 → (psAt L p).bg < t) ∧ ∀ p, j ≤ p → p < L.length → t ≤ (psAt L p).bg) := Lib.hid ⟨fun p hp => by
          rcases Nat.lt_or_ge p m with h | h
          · have := HA.out p m h (by omega); rw [HT.out] at this; omega
          · obtain rfl : p = m := by omega
            rw [HT.out]; exact hx, hI.out.2⟩
        go_wp2_with fail
        refine (cmpJ_any v t _ HV.out _).mono ?_
        rintro e' w1 ⟨rfl, hb⟩
        have HB := Lib.hid (bthen hB.out hb hB.out.size)
        clear hb c0 c1 c2 c3 c4 c5
        go_wp2_with fail
        go_roundw
        case rel => exact ⟨m + 1, j, by omega, hj, by go_num, rfl, HN, HB⟩
        case measure => simp [intOf]; omega
      · have HN : Hid ((∀ p, p < i → (psAt L p).bg < t) ∧ ∀ p, m ≤ p → p < L.length → t ≤ (psAt L p).bg) := Lib.hid ⟨hI.out.1, fun p hp hpl => by
          rcases Nat.lt_or_ge m p with h | h
          · have := HA.out m p h hpl; rw [HT.out] at this; omega
          · obtain rfl : p = m := by omega
            rw [HT.out]; omega⟩
        rcases Int.lt_or_eq_of_le (show t ≤ v.bg by omega) with hy | hy
        · have HV := Lib.hid (sgn_pos (n := v.bg - t) (by omega))
          go_wp2_with fail
          refine (cmpJ_any v t _ HV.out _).mono ?_
          rintro e' w1 ⟨rfl, hb⟩
          have HB := Lib.hid (bthen hB.out hb hB.out.size)
          clear hb c0 c1 c2 c3 c4 c5
          go_wp2_with fail
          go_roundw
          case rel => exact ⟨i, m, by omega, by omega, rfl, rfl, HN, HB⟩
          case measure => simp [intOf]; omega
        · have HV := Lib.hid (sgn_zero (n := v.bg - t) (by omega))
          clear hy
          go_wp2_with fail
          refine (cmpJ_any v t _ HV.out _).mono ?_
          rintro e' w1 ⟨rfl, hb⟩
          have HB := Lib.hid (bthen hB.out hb hB.out.size)
          clear hb c0 c1 c2 c3 c4 c5
          go_wp2_with fail
          go_roundw
          case rel => exact ⟨i, m, by omega, by omega, rfl, rfl, HN, HB⟩
          case measure => simp [intOf]; omega
    · obtain rfl : i = j := by omega
      have HI : Hid (IsLbJ L t i) := Lib.hid ⟨hj, hI.out.1, hI.out.2⟩
      clear hI
      by_cases hn : i < L.length
      · obtain ⟨b, o, v, rfl, hb, hl, c0, c1, c2, c3, c4, c5⟩ := (sds_atJ HS.out hB.out).2 i hn
        clear hl hb
        obtain ⟨r, hr⟩ : ∃ r, sgn (v.bg - t) = r := ⟨_, rfl⟩
        have HV := Lib.hid hr
        clear hr
        go_wp2_with fail
        refine (cmpJ_any v t r HV.out _).mono ?_
        rintro e' w1 ⟨rfl, hb⟩
        have HB := Lib.hid (bthen hB.out hb hB.out.size)
        clear hb c0 c1 c2 c3 c4 c5
        go_wp2_with fail
        go_ret2
        exact ⟨i, _, HI.out, rfl, HB.out⟩
      · go_wp2_with fail
        go_ret2
        exact ⟨i, _, HI.out, rfl, hB.out⟩
theorem catJ_here (b o c k k2 c' : Nat) (l : List PS) (v : PS) (W : World) (hs : SdsJ W W.heap.size (some ⟨b, o, none⟩) l.length l) (hk : k ≤ k2) (hk2 : k2 ≤ l.length) (h15 : l.length ≤ 12) (hcap : l.length ≤ c) :
    Calls Try.prog 92 #[.slice (some ⟨W.heap.size + 1, 0, none⟩) 3 3] ((W.alloc (.cells #[.int .i64 v.ln, .int .i64 v.bg, .int .i64 v.en, .int .i64 v.pi, .int .i64 v.bd, .int .i64 v.co] 40)).alloc (.cells #[.slice (some ⟨b, o, none⟩) k c, .slice (some ⟨W.heap.size, 0, none⟩) 1 1, .slice (if c = k2 then some ⟨b, o, none⟩ else some ⟨b, o + k2 * 6, none⟩) (l.length - k2) c'] 24))
      (CatPJ (l.take k ++ [v] ++ l.drop k2) ((W.alloc (.cells #[.int .i64 v.ln, .int .i64 v.bg, .int .i64 v.en, .int .i64 v.pi, .int .i64 v.bd, .int .i64 v.co] 40)).alloc (.cells #[.slice (some ⟨b, o, none⟩) k c, .slice (some ⟨W.heap.size, 0, none⟩) 1 1, .slice (if c = k2 then some ⟨b, o, none⟩ else some ⟨b, o + k2 * 6, none⟩) (l.length - k2) c'] 24))) := by
  have e1 : (l.take k).length = k := by rw [List.length_take]; omega
  have e3 : (l.drop k2).length = l.length - k2 := List.length_drop
  obtain ⟨a3, ha3, hp3⟩ : ∃ a3 : Addr, (if c = k2 then some ⟨b, o, none⟩ else some ⟨b, o + k2 * 6, none⟩ : Option Addr) = some a3 ∧ Part6 W a3 (l.drop k2) := by
    by_cases q : c = k2
    · refine ⟨⟨b, o, none⟩, if_pos q, fun j u hu => ?_⟩
      have hj := (List.getElem?_eq_some_iff.1 hu).1
      rw [cellsS_lenJ, e3] at hj
      omega
    · exact ⟨_, if_neg q, (part_row6 hs hk2).2⟩
  rw [ha3]
  have hb1 : Below W.heap.size W (W.alloc (.cells #[.int .i64 v.ln, .int .i64 v.bg, .int .i64 v.en, .int .i64 v.pi, .int .i64 v.bd, .int .i64 v.co] 40)) := (box1 (Below.refl _ _)).1
  have hh1 : Has (W.alloc (.cells #[.int .i64 v.ln, .int .i64 v.bg, .int .i64 v.en, .int .i64 v.pi, .int .i64 v.bd, .int .i64 v.co] 40)) W.heap.size [.int .i64 v.ln, .int .i64 v.bg, .int .i64 v.en, .int .i64 v.pi, .int .i64 v.bd, .int .i64 v.co] := (box1 (Below.refl _ _)).2
  have hsz : (W.alloc (.cells #[.int .i64 v.ln, .int .i64 v.bg, .int .i64 v.en, .int .i64 v.pi, .int .i64 v.bd, .int .i64 v.co] 40)).heap.size = W.heap.size + 1 := World.size_alloc _ _
  obtain ⟨W1, hW1⟩ : ∃ W1, W1 = W.alloc (.cells #[.int .i64 v.ln, .int .i64 v.bg, .int .i64 v.en, .int .i64 v.pi, .int .i64 v.bd, .int .i64 v.co] 40) := ⟨_, rfl⟩
  rw [← hW1] at hb1 hh1 hsz
  rw [← hW1]
  have hb2 : Below W1.heap.size W1 (W1.alloc (.cells #[.slice (some ⟨b, o, none⟩) k c, .slice (some ⟨W.heap.size, 0, none⟩) 1 1, .slice (some a3) (l.length - k2) c'] 24)) := (box1 (Below.refl _ _)).1
  have hh2 : Has (W1.alloc (.cells #[.slice (some ⟨b, o, none⟩) k c, .slice (some ⟨W.heap.size, 0, none⟩) 1 1, .slice (some a3) (l.length - k2) c'] 24)) W1.heap.size [.slice (some ⟨b, o, none⟩) k c, .slice (some ⟨W.heap.size, 0, none⟩) 1 1, .slice (some a3) (l.length - k2) c'] := (box1 (Below.refl _ _)).2
  rw [hsz] at hh2
  refine concatJ_any (W.heap.size + 1) ⟨b, o, none⟩ ⟨W.heap.size, 0, none⟩ a3 (l.take k) [v] (l.drop k2) c 1 c' 3 _ (by rw [e1]; exact hh2.at_ 0 _ rfl) (hh2.at_ 1 _ rfl) (by rw [e3]; exact hh2.at_ 2 _ rfl) ((((part_row6 hs (show k ≤ l.length by omega)).1).next hb1).next hb2) ?_ ((hp3.next hb1).next hb2) (by rw [e1, e3]; simp; omega) (by simp; omega)
  refine Part6.next (fun j u hu => ?_) hb2
  have hu' : ([.int .i64 v.ln, .int .i64 v.bg, .int .i64 v.en, .int .i64 v.pi, .int .i64 v.bd, .int .i64 v.co] : List Value)[j]? = some u := by simpa [cellsSJ] using hu
  rw [add_none, Nat.zero_add]
  exact hh1.at_ j u hu'
set_option maxRecDepth 20000 in
set_option maxHeartbeats 6400000 in
theorem put_impl (b o n c : Nat) (L : List PS) (p : PS) (w : World) (hs : SdsJ w w.heap.size (some ⟨b, o, none⟩) n L) (hm : n ≤ maxLen) (hcap : n ≤ c) (hc : c ≤ maxLen) :
    Calls Try.prog 39 #[.slice (some ⟨b, o, none⟩) n c, .agg #[.int .i64 p.ln, .int .i64 p.bg, .int .i64 p.en, .int .i64 p.pi, .int .i64 p.bd, .int .i64 p.co]] w (PpPost L p w) := by
  obtain rfl := hs.1
  have HS := Lib.hid hs
  obtain ⟨WB, hWB⟩ : ∃ WB, WB = w.alloc (.cells #[.int .i64 p.ln, .int .i64 p.bg, .int .i64 p.en, .int .i64 p.pi, .int .i64 p.bd, .int .i64 p.co] 40) := ⟨_, rfl⟩
  have HW : Hid (Below w.heap.size w WB ∧ Has WB w.heap.size [.int .i64 p.ln, .int .i64 p.bg, .int .i64 p.en, .int .i64 p.pi, .int .i64 p.bd, .int .i64 p.co]) := by rw [hWB]; exact box1 (Below.refl _ _)
  have HBW : Hid (w.heap.size < WB.heap.size) := by rw [hWB]; exact Lib.hid (by simp)
  have HS0 := Lib.hid (sds_atJ hs HW.out.1)
  have HE0 := Lib.hid hWB
  unfold maxLen at hc
  clear hs hWB
  rcases h1 : pssB L with _ | _
  · have H1 := Lib.hid h1
    clear h1
    go_enter Try.func39, Try.ntmps39
    go_wp2_with fail
    rw [← HE0.out]
    refine (pss_impl_v _ _ _ L _ H1.out _ HS0.out hm).mono ?_
    rintro e w1 ⟨rfl, hb⟩
    have HB1 := Lib.hid (bthen HW.out.1 hb HW.out.1.size)
    clear hb
    go_wp2_with fail
    go_ret2
    exact pp_no (pp_1 H1.out) HB1.out
  have H1 := Lib.hid h1
  have HAS := Lib.hid (ascJ_good (good11_of h1))
  have h12 := (good11_of h1).max
  obtain ⟨r, hr⟩ : ∃ r, pssB (ppL L p) = r := ⟨_, rfl⟩
  have HR := Lib.hid hr
  have HPL := Lib.hid (ppL_len L p)
  clear h1 hr
  go_enter Try.func39, Try.ntmps39
  go_wp2_with fail
  rw [← HE0.out]
  refine (pss_impl_v _ _ _ L _ H1.out _ HS0.out hm).mono ?_
  rintro e w1 ⟨rfl, hb⟩
  have HB1 := Lib.hid (bthen HW.out.1 hb HW.out.1.size)
  have HW1 := Lib.hid (HW.out.2.next hb)
  have HS1 := Lib.hid (sds_atJ HS0.out hb)
  have a1 := HW1.out.at_ 1 _ rfl
  clear hb
  go_wp2_with fail
  refine (searchJ_any _ _ _ L p.bg _ HS1.out (by omega) HAS.out).mono ?_
  rintro e w2 ⟨i, rr, hi, rfl, hb⟩
  have HPK := Lib.hid (lbJ_is hi)
  have hil := hi.1
  have HB2 := Lib.hid (bthen HB1.out hb HB1.out.size)
  have HW2 := Lib.hid (HW1.out.next hb)
  have HS2 := Lib.hid (sds_atJ HS1.out hb)
  clear hb hi a1
  have g0 := HW2.out.at_ 0 _ rfl
  have g1 := HW2.out.at_ 1 _ rfl
  have g2 := HW2.out.at_ 2 _ rfl
  have g3 := HW2.out.at_ 3 _ rfl
  have g4 := HW2.out.at_ 4 _ rfl
  have g5 := HW2.out.at_ 5 _ rfl
  have q0 : (0 : Int) ≤ (i : Int) := by omega
  have q1 : (i : Int) ≤ (c : Int) := by omega
  have q2 : (i : Int) ≤ (L.length : Int) := by omega
  have q3 : (L.length : Int) ≤ (c : Int) := by omega
  go_wp2_with fail
  have lc0 := lcell g0
  have lc1 := lcell g1
  have lc2 := lcell g2
  have lc3 := lcell g3
  have lc4 := lcell g4
  have lc5 := lcell g5
  refine region_perm (W := w2) 10 [0, 1, 2, 3, 5, 6, 7] [4, 8, 9] (by kernel_rfl) (by kernel_rfl) (Below.refl _ _) (fun d _ _ _ _ h => by cases d <;> exact h) ?_
  simp only [picks, List.getElem?_cons_succ, List.getElem?_cons_zero, List.drop_succ_cons, List.drop_zero]
  repeat (go_big_quiet_step (fail))
  refine wpQuiet_nil ?_
  intro W3 hW1
  have HL : Hid (Below w2.heap.size w2 W3) := by obtain ⟨x, rfl⟩ := hW1; exact Lib.hid x.below
  clear hW1 lc0 lc1 lc2 lc3 lc4 lc5 g0 g1 g2 g3 g4 g5
  have HC := Lib.hid (catJ_here b o c i i (c - i) L p W3 (sds_atJ HS2.out HL.out) (by omega) (by omega) h12 hcap)
  have HB3 : Hid (Below w2.heap.size w2 ((W3.alloc (.cells #[.int .i64 p.ln, .int .i64 p.bg, .int .i64 p.en, .int .i64 p.pi, .int .i64 p.bd, .int .i64 p.co] 40)).alloc (.cells #[.slice (some ⟨b, o, none⟩) i c, .slice (some ⟨W3.heap.size, 0, none⟩) 1 1, .slice (if c = i then some ⟨b, o, none⟩ else some ⟨b, o + i * 6, none⟩) (L.length - i) (c - i)] 24))) := Lib.hid ((HL.out.alloc HL.out.size _).alloc (by rw [World.size_alloc]; exact Nat.le_succ_of_le HL.out.size) _)
  simp only [wpMem]
  refine wpOp_step rfl (fun K hK => ?_)
  rw [if_pos (by rfl)]
  go_simp
  refine hK _ _ ⟨⟨⟨_, HL.out.alloc HL.out.size _⟩, rfl⟩, ?_⟩
  clear hK K
  refine wpOp_step rfl (fun K hK => ?_)
  rw [if_pos (by rfl)]
  go_simp
  refine hK _ _ ⟨⟨⟨_, HB3.out⟩, rfl⟩, ?_⟩
  clear hK K
  refine wpOp_step rfl (fun K hK => ?_)
  rw [if_pos (by rfl)]
  go_simp
  refine HC.out.mono ?_
  rintro e w5 ⟨v, rfl, hown, hb⟩
  refine hK _ _ ⟨⟨⟨_, bthen HB3.out hb HB3.out.size⟩, rfl⟩, ?_⟩
  clear hK K
  have HF : Hid (Col w 40 6 v (L.length + 1) (cellsSJ (ppL L p)) w5) := by
    have h := hown
    have e : L.take i ++ [p] ++ L.drop i = ppL L p := by unfold ppL; rw [HPK.out]; simp
    rw [e, HPL.out] at h
    exact Lib.hid ⟨own_base h (bthen HB2.out HB3.out HB2.out.size).size, bthen HB2.out (bthen HB3.out hb HB3.out.size) HB2.out.size⟩
  obtain ⟨O3, hO3⟩ : ∃ O : Option Addr, O = (if c = i then some ⟨b, o, none⟩ else some ⟨b, o + i * 6, none⟩) := ⟨_, rfl⟩
  rw [← hO3]
  clear hO3 hown hb HC
  obtain ⟨A9, c9, hv9, ho9, hb9⟩ := ownS_of_colJ HF.out HPL.out
  subst hv9
  have HO9 := Lib.hid ho9
  clear ho9 hb9
  go_wp2_with fail
  refine (pss_impl_v _ _ _ (ppL L p) r HR.out _ HO9.out.sds (by unfold maxLen; omega)).mono ?_
  rintro e w9 ⟨rfl, hb⟩
  have HB9 := Lib.hid (bthen HF.out.2 hb HF.out.2.size)
  have HO10 := Lib.hid ((HO9.out.on hb (Nat.le_refl _)).wide (Nat.le_refl _) hb.size)
  clear hb
  rcases r with _ | _
  · go_wp2_with fail
    go_ret2
    exact pp_no (pp_2 HR.out) HB9.out
  · go_wp2_with fail
    go_ret2
    exact pp_yes (pp_3 H1.out HR.out) HPL.out.symm HO10.out HB9.out
end Go.Proofs.Ytllfmjnniagjfaa
