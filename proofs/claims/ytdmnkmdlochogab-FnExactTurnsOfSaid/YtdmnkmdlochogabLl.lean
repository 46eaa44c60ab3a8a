/-
  What the laws do with lines: contracts of laws.toSpot, eqSpot, szSurveyLineS, toSurveyLine, toSurveyLineS, eqSurveyLine, eqSurveyLineS over this translation. Conditions: stated at each theorem.
-/
import Derived.Test.YtdmnkmdlochogabSk
import Derived.Test.YtdmnkmdlochogabLo
namespace Go.Proofs.Ytdmnkmdlochogab
open Go.RowKit

theorem toSpotS_anyN (x y : Int) (w : World) :
    Calls Try.prog 152 #[.agg #[.int .i64 x, .int .i64 y]] w fun e w' => e = .returned (.agg #[.int .i64 x, .int .i64 y]) ∧ Below w.heap.size w w' := by
  go_enter Try.func152, Try.ntmps152
  go_wp2
  refine bodyPost_ret (v := .agg #[.int .i64 x, .int .i64 y]) (by simp [results, Try.results152, go_sem]) rfl ⟨rfl, ?_⟩
  repeat (first | exact Below.refl _ _ | refine Below.setCell ?_ (by simp; try omega) _ | refine Below.alloc ?_ (by simp; try omega) _)
theorem eqSpotS_sameN (x y : Int) (w : World) :
    Calls Try.prog 154 #[.agg #[.int .i64 x, .int .i64 y], .agg #[.int .i64 x, .int .i64 y]] w fun e w' => e = .returned (.bool true) ∧ Below w.heap.size w w' := by
  go_enter Try.func154, Try.ntmps154
  go_wp2
  go_ret
  refine ⟨rfl, ?_⟩
  repeat (first | exact Below.refl _ _ | refine Below.alloc ?_ (by simp; try omega) _)
/-! ### laws.szSurveyLineS -/
theorem szS_negN (A : Option Addr) (n c : Nat) (m : Int) (w : World) (h0 : 0 ≤ m) (h1 : m ≤ 1048576) (hn : m < n) (hm : n ≤ maxLen) :
    Calls Try.prog 80 #[.slice A n c, .int .i64 m] w fun e w' => e = .returned (.int .i64 (-1)) ∧ w = w' := by
  unfold maxLen at hm
  go_enter Try.func80, Try.ntmps80
  go_wp2
  go_ret
  exact ⟨rfl, rfl⟩
theorem szS_posN (A : Option Addr) (n c : Nat) (m : Int) (w : World) (h1 : m ≤ 1048576) (hn : (n : Int) ≤ m) :
    Calls Try.prog 80 #[.slice A n c, .int .i64 m] w fun e w' => e = .returned (.int .i64 (m - n)) ∧ w = w' := by
  go_enter Try.func80, Try.ntmps80
  go_wp2
  go_ret
  exact ⟨rfl, rfl⟩
/-- Block g holds n lines, the first k of which are those of L; all may be written. -/
structure FillSN (w : World) (B g n k : Nat) (L : List LN) : Prop where
  low : B ≤ g
  lt : g < w.heap.size
  free : ∀ j, w.frozen? ⟨g, j, none⟩ = false
  cells : ∀ j, j < n * 5 → ∃ u, w.cell? ⟨g, j, none⟩ = some u
  done : ∀ j, j < k → ∃ v, L[j]? = some v ∧ At5N w g (j * 5) v
theorem FillSN.on {w w' : World} {B B' g n k : Nat} {L : List LN} (h : FillSN w B g n k L) (hb : Below B' w w') (hg : g < B') (hs : w.heap.size ≤ w'.heap.size) : FillSN w' B g n k L :=
  ⟨h.low, Nat.lt_of_lt_of_le h.lt hs, fun j => (hb.frozen (p := ⟨g, j, none⟩) hg).trans (h.free j), fun j hj => by
    obtain ⟨u, hu⟩ := h.cells j hj
    exact ⟨u, (hb.cell (p := ⟨g, j, none⟩) hg).trans hu⟩, fun j hj => by
    obtain ⟨v, hv, h5⟩ := h.done j hj
    exact ⟨v, hv, h5.on hb hg⟩⟩
theorem FillSN.next {w w' : World} {B g n k : Nat} {L : List LN} (h : FillSN w B g n k L) (hb : Below w.heap.size w w') : FillSN w' B g n k L := h.on hb h.lt hb.size
theorem FillSN.wide {w : World} {B B' g n k : Nat} {L : List LN} (h : FillSN w B g n k L) (hB : B' ≤ B) : FillSN w B' g n k L := ⟨Nat.le_trans hB h.low, h.lt, h.free, h.cells, h.done⟩
theorem FillSN.bare {w : World} {B g n k : Nat} {L : List LN} (h : FillSN w B g n k L) (L' : List LN) : FillSN w B g n 0 L' := ⟨h.low, h.lt, h.free, h.cells, fun j hj => absurd hj (by omega)⟩
theorem at5_otherN {w w' : World} {b o : Nat} {v : LN} (h : At5N w b o v) (he : ∀ q, o ≤ q → q < o + 5 → w'.cell? ⟨b, q, none⟩ = w.cell? ⟨b, q, none⟩) : At5N w' b o v := by
  obtain ⟨h0, h1, h2, h3, h4⟩ := h
  exact ⟨(he _ (by omega) (by omega)).trans h0, (he _ (by omega) (by omega)).trans h1, (he _ (by omega) (by omega)).trans h2, (he _ (by omega) (by omega)).trans h3, (he _ (by omega) (by omega)).trans h4⟩
theorem FillSN.more {w : World} {B g n k : Nat} {L : List LN} (h : FillSN w B g n k L) {v : LN} (hl : L[k]? = some v) (h5 : At5N w g (k * 5) v) : FillSN w B g n (k + 1) L :=
  ⟨h.low, h.lt, h.free, h.cells, fun j hj => by
    rcases Nat.lt_or_ge j k with h1 | h1
    · exact h.done j h1
    · obtain rfl : j = k := by omega
      exact ⟨v, hl, h5⟩⟩
theorem FillSN.put {w : World} {B g n k : Nat} {L : List LN} (h : FillSN w B g n k L) (i : Nat) (hi : k * 5 ≤ i) (u : Value) : FillSN (w.setCell ⟨g, i, none⟩ u) B g n k L := by
  refine ⟨h.low, by simpa [World.setCell] using h.lt, fun j => (World.frozen?_setCell _ _ _ _).trans (h.free j), fun j hj => ?_, fun j hj => ?_⟩
  · obtain ⟨u', hu'⟩ := h.cells j hj
    by_cases e : j = i
    · subst e; exact ⟨u, World.cell?_setCell_same _ _ _ hu'⟩
    · exact ⟨u', (World.cell?_setCell_other _ _ _ _ (fun h => by injection h with _ h2; exact e h2.symm)).trans hu'⟩
  · obtain ⟨v, hv, h5⟩ := h.done j hj
    refine ⟨v, hv, at5_otherN h5 fun q h1 h2 => World.cell?_setCell_other _ _ _ _ fun h => ?_⟩
    injection h with _ h3
    omega
theorem FillSN.puts {B g n k : Nat} {L : List LN} (vs : List Value) : ∀ {w : World} (_ : FillSN w B g n k L) (i : Nat) (_ : k * 5 ≤ i), FillSN (setL w g i vs) B g n k L := by
  induction vs with
  | nil => intro w h i hi; exact h
  | cons v vs ih => intro w h i hi; exact ih (h.put i hi v) (i + 1) (by omega)
theorem FillSN.lay {w : World} {B g n k : Nat} {L : List LN} (h : FillSN w B g n k L) (hk : k < n) {v : LN} (hl : L[k]? = some v) :
    FillSN (setL w g (k * 5) [.int .i64 v.id, .int .i64 v.y, .int .i64 v.fr, .int .i64 v.to, .int .i64 v.sw]) B g n (k + 1) L := by
  have hat := setL_at [.int .i64 v.id, .int .i64 v.y, .int .i64 v.fr, .int .i64 v.to, .int .i64 v.sw] w g (k * 5) (fun i hi => h.cells _ (by simp only [List.length_cons, List.length_nil] at hi; omega))
  exact (h.puts [.int .i64 v.id, .int .i64 v.y, .int .i64 v.fr, .int .i64 v.to, .int .i64 v.sw] (k * 5) (Nat.le_refl _)).more hl ⟨hat 0 _ rfl, hat 1 _ rfl, hat 2 _ rfl, hat 3 _ rfl, hat 4 _ rfl⟩
theorem infoSoundN : (Try.prog.info? 34).map (fun i => (i.zero, i.size, i.bytes)) = some (some (.agg #[.int .i64 0, .int .i64 0, .int .i64 0, .int .i64 0, .int .i64 0]), 5, 40) := by kernel_rfl
theorem fillS_ownN {w1 : World} {B g n c : Nat} {cs : List Value} {L : List LN} (h : w1.ownsRow B 34 5 (.slice (some ⟨g, 0, none⟩) n c) n cs) : FillSN w1 B g n 0 L :=
  ⟨(h.lt g rfl).1, (h.lt g rfl).2, fun j => h.frozenAt j, fun j hj => by
    rw [h.cellAt j (by omega)]
    have h1 := h.1
    exact ⟨_, List.getElem?_eq_getElem (by omega)⟩, fun j hj => absurd hj (by omega)⟩
theorem sds_of_fillN {w : World} {B g n : Nat} {L : List LN} (h : FillSN w B g n n L) (hn : L.length = n) : SdsN w w.heap.size (some ⟨g, 0, none⟩) n L :=
  ⟨hn, fun k hk => by
    obtain ⟨v, hv, h5⟩ := h.done k hk
    exact ⟨g, 0, v, rfl, h.lt, hv, by rw [Nat.zero_add]; exact h5⟩⟩
/-! ### laws.toSurveyLine, laws.toSurveyLineS -/
set_option maxHeartbeats 1600000 in
theorem toSound_anyN (v : LN) (w : World) :
    Calls Try.prog 156 #[.agg #[.int .i64 v.id, .int .i64 v.y, .int .i64 v.fr, .int .i64 v.to, .int .i64 v.sw]] w fun e w' => e = .returned (.agg #[.int .i64 v.id, .int .i64 v.y, .int .i64 v.fr, .int .i64 v.to, .int .i64 v.sw]) ∧ Below w.heap.size w w' := by
  go_enter Try.func156, Try.ntmps156
  go_wp2
  refine bodyPost_ret (v := .agg #[.int .i64 v.id, .int .i64 v.y, .int .i64 v.fr, .int .i64 v.to, .int .i64 v.sw]) (by simp [results, Try.results156, go_sem]) rfl ⟨rfl, ?_⟩
  repeat (first | exact Below.refl _ _ | refine Below.setCell ?_ (by simp; try omega) _ | refine Below.alloc ?_ (by simp; try omega) _)
def CopySsN (L : List LN) (w : World) (e : Ending) (w' : World) : Prop :=
  ∃ g, e = .returned (.slice (some ⟨g, 0, none⟩) L.length L.length) ∧ FillSN w' w.heap.size g L.length L.length L ∧ Below w.heap.size w w'
set_option maxHeartbeats 1600000 in
theorem copySs_anyN (A : Option Addr) (n c : Nat) (L : List LN) (w : World) (hs : SdsN w w.heap.size A n L) (hsz : n ≤ 1048576) :
    Calls Try.prog 81 #[.slice A n c] w (CopySsN L w) := by
  obtain ⟨i0, hi, hz0, hz1, hz2⟩ := info_parts infoSoundN
  obtain rfl := hs.1
  have HS := Lib.hid hs
  clear hs
  go_enter Try.func81, Try.ntmps81
  go_wp2_with (at_make; refine wpList_make_full _ rfl _ _ 28 rfl w.heap.size 34 i0 (.agg #[.int .i64 0, .int .i64 0, .int .i64 0, .int .i64 0, .int .i64 0]) 5 Try.underlying28 hi hz0 hz1 .i64 .i64 _ _ L.length rfl rfl rfl rfl (by rw [hz2]; omega) (by unfold maxLen; omega) (Nat.le_refl _) ?_; intro w1 hown hgrow)
  have HB0 := Lib.hid ((Below.refl w.heap.size w).grown hgrow (Nat.le_refl _) (fun k e => by cases e))
  have HF0 : Hid (FillSN w1 w.heap.size w.heap.size L.length 0 L) := fillS_ownN hown
  clear hown hgrow
  go_loopw [4] (fun i wr => ∃ k : Nat, k ≤ L.length ∧ i = .int .i64 k ∧ Hid (FillSN wr w.heap.size w.heap.size L.length k L) ∧ Hid (Below w.heap.size w wr)) (fun i _ => L.length - (intOf i).toNat)
  case atStart => exact ⟨0, Nat.zero_le _, rfl, HF0, HB0⟩
  case round =>
    obtain ⟨k, hk, rfl, hF, hB⟩ := hrel
    by_cases hlt : k < L.length
    · obtain ⟨b, o, v, rfl, hb, hL, c0, c1, c2, c3, c4⟩ := (sds_atN HS.out hB.out).2 k hlt
      have HK := Lib.hid hL
      clear hL
      go_wp2_with fail
      refine (toSound_anyN v _).mono ?_
      rintro e w1 ⟨rfl, hb'⟩
      have HF1 := Lib.hid (hF.out.next hb')
      have HB1 := Lib.hid (bthen hB.out hb' hB.out.size)
      clear hb' c0 c1 c2 c3 c4
      obtain ⟨v0, h0⟩ := HF1.out.cells (k * 5) (by omega)
      obtain ⟨v1, h1⟩ := HF1.out.cells (k * 5 + 1) (by omega)
      obtain ⟨v2, h2⟩ := HF1.out.cells (k * 5 + 2) (by omega)
      obtain ⟨v3, h3⟩ := HF1.out.cells (k * 5 + 3) (by omega)
      obtain ⟨v4, h4⟩ := HF1.out.cells (k * 5 + 4) (by omega)
      have f0 := HF1.out.free (k * 5)
      have f1 := HF1.out.free (k * 5 + 1)
      have f2 := HF1.out.free (k * 5 + 2)
      have f3 := HF1.out.free (k * 5 + 3)
      have f4 := HF1.out.free (k * 5 + 4)
      have HF2 := Lib.hid (HF1.out.lay hlt HK.out)
      have HB2 := Lib.hid (setL_below [.int .i64 v.id, .int .i64 v.y, .int .i64 v.fr, .int .i64 v.to, .int .i64 v.sw] HB1.out (Nat.le_refl w.heap.size) (k * 5))
      go_wp2_with fail
      go_roundw
      case rel => exact ⟨k + 1, by omega, by go_num, HF2, HB2⟩
      case measure => simp [intOf]; omega
    · obtain rfl : k = L.length := by omega
      have HC : Hid (CopySsN L w (.returned (.slice (some ⟨w.heap.size, 0, none⟩) L.length L.length)) wr) := Lib.hid ⟨_, rfl, hF.out, hB.out⟩
      go_wp2_with fail
      go_ret
      exact HC
/-! ### laws.eqSurveyLine, laws.eqSurveyLineS -/
set_option maxHeartbeats 800000 in
theorem eqS_sameN (v : LN) (w : World) :
    Calls Try.prog 157 #[.agg #[.int .i64 v.id, .int .i64 v.y, .int .i64 v.fr, .int .i64 v.to, .int .i64 v.sw], .agg #[.int .i64 v.id, .int .i64 v.y, .int .i64 v.fr, .int .i64 v.to, .int .i64 v.sw]] w fun e w' => e = .returned (.bool true) ∧ Below w.heap.size w w' := by
  go_enter Try.func157, Try.ntmps157
  go_wp2
  go_ret
  refine ⟨rfl, ?_⟩
  repeat (first | exact Below.refl _ _ | refine Below.alloc ?_ (by simp; try omega) _)
set_option maxHeartbeats 1600000 in
theorem eqSs_sameN (A A' : Option Addr) (n c c' : Nat) (L : List LN) (w : World) (h1 : SdsN w w.heap.size A n L) (h2 : SdsN w w.heap.size A' n L) (hm : n ≤ maxLen) :
    Calls Try.prog 82 #[.slice A n c, .slice A' n c'] w fun e w' => e = .returned (.bool true) ∧ Below w.heap.size w w' := by
  unfold maxLen at hm
  have H1 := Lib.hid h1
  have H2 := Lib.hid h2
  clear h1 h2
  go_enter Try.func82, Try.ntmps82
  go_wp2_with fail
  go_loopw [5] (fun i wr => ∃ k : Nat, k ≤ n ∧ i = .int .i64 k ∧ Hid (Below w.heap.size w wr)) (fun i _ => n - (intOf i).toNat)
  case atStart => exact ⟨0, Nat.zero_le _, rfl, Lib.hid (Below.refl _ _)⟩
  case round =>
    obtain ⟨k, hk, rfl, hB⟩ := hrel
    by_cases hlt : k < n
    · obtain ⟨b1, o1, v, rfl, hb1, hL1, p0, p1, p2, p3, p4⟩ := (sds_atN H1.out hB.out).2 k hlt
      obtain ⟨b2, o2, v', rfl, hb2, hL2, q0, q1, q2, q3, q4⟩ := (sds_atN H2.out hB.out).2 k hlt
      obtain rfl : v = v' := Option.some.inj (hL1.symm.trans hL2)
      clear hL1 hL2
      obtain ⟨W0, rfl⟩ : ∃ W : World, W = wr := ⟨_, rfl⟩
      go_wp2_with fail
      have lc0 := lcell (p0)
      have lc1 := lcell (p1)
      have lc2 := lcell (p2)
      have lc3 := lcell (p3)
      have lc4 := lcell (p4)
      have lc5 := lcell (q0)
      have lc6 := lcell (q1)
      have lc7 := lcell (q2)
      have lc8 := lcell (q3)
      have lc9 := lcell (q4)
      refine region_later (W := W0) (by kernel_rfl) (by kernel_rfl) (Below.refl _ _) ?_
      repeat (go_big_quiet_step (((go_at_call 157; go_loud (exact later_call (eqS_sameN v _))))))
      refine wpQuiet_nil ?_
      intro W1 hW1
      have HL : Hid (Below W0.heap.size W0 W1) := by obtain ⟨x, rfl⟩ := hW1; exact Lib.hid x.below
      clear hW1 lc0 lc1 lc2 lc3 lc4 lc5 lc6 lc7 lc8 lc9
      have HT := Lib.hid (bthen hB.out HL.out hB.out.size)
      clear p0 p1 p2 p3 p4 q0 q1 q2 q3 q4
      go_wp2_with fail
      go_roundw
      case rel => exact ⟨k + 1, by omega, by go_num, HT⟩
      case measure => simp [intOf]; omega
    · obtain rfl : k = n := by omega
      go_wp2_with fail
      go_ret
      exact ⟨rfl, hB.out⟩
end Go.Proofs.Ytdmnkmdlochogab
