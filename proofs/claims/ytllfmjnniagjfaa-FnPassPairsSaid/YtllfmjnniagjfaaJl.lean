/-
  What the laws do with lines: contracts of laws.toSpot, eqSpot, szPassS, toPass, toPassS, eqPass, eqPassS over this translation. Conditions: stated at each theorem.
-/
import Derived.Test.YtllfmjnniagjfaaSk
import Derived.Test.YtllfmjnniagjfaaJo
namespace Go.Proofs.Ytllfmjnniagjfaa
open Go.RowKit

theorem szS_negJ (A : Option Addr) (n c : Nat) (m : Int) (w : World) (h0 : 0 ≤ m) (h1 : m ≤ 1048576) (hn : m < n) (hm : n ≤ maxLen) :
    Calls Try.prog 47 #[.slice A n c, .int .i64 m] w fun e w' => e = .returned (.int .i64 (-1)) ∧ w = w' := by
  unfold maxLen at hm
  go_enter Try.func47, Try.ntmps47
  go_wp2
  go_ret
  exact ⟨rfl, rfl⟩
theorem szS_posJ (A : Option Addr) (n c : Nat) (m : Int) (w : World) (h1 : m ≤ 1048576) (hn : (n : Int) ≤ m) :
    Calls Try.prog 47 #[.slice A n c, .int .i64 m] w fun e w' => e = .returned (.int .i64 (m - n)) ∧ w = w' := by
  go_enter Try.func47, Try.ntmps47
  go_wp2
  go_ret
  exact ⟨rfl, rfl⟩
/-- Block g holds n lines, the first k of which are those of L; all may be written. -/
structure FillSJ (w : World) (B g n k : Nat) (L : List PS) : Prop where
  low : B ≤ g
  lt : g < w.heap.size
  free : ∀ j, w.frozen? ⟨g, j, none⟩ = false
  cells : ∀ j, j < n * 6 → ∃ u, w.cell? ⟨g, j, none⟩ = some u
  done : ∀ j, j < k → ∃ v, L[j]? = some v ∧ At5J w g (j * 6) v
theorem FillSJ.on {w w' : World} {B B' g n k : Nat} {L : List PS} (h : FillSJ w B g n k L) (hb : Below B' w w') (hg : g < B') (hs : w.heap.size ≤ w'.heap.size) : FillSJ w' B g n k L :=
  ⟨h.low, Nat.lt_of_lt_of_le h.lt hs, fun j => (hb.frozen (p := ⟨g, j, none⟩) hg).trans (h.free j), fun j hj => by
    obtain ⟨u, hu⟩ := h.cells j hj
    exact ⟨u, (hb.cell (p := ⟨g, j, none⟩) hg).trans hu⟩, fun j hj => by
    obtain ⟨v, hv, h5⟩ := h.done j hj
    exact ⟨v, hv, h5.on hb hg⟩⟩
theorem FillSJ.next {w w' : World} {B g n k : Nat} {L : List PS} (h : FillSJ w B g n k L) (hb : Below w.heap.size w w') : FillSJ w' B g n k L := h.on hb h.lt hb.size
theorem FillSJ.wide {w : World} {B B' g n k : Nat} {L : List PS} (h : FillSJ w B g n k L) (hB : B' ≤ B) : FillSJ w B' g n k L := ⟨Nat.le_trans hB h.low, h.lt, h.free, h.cells, h.done⟩
theorem FillSJ.bare {w : World} {B g n k : Nat} {L : List PS} (h : FillSJ w B g n k L) (L' : List PS) : FillSJ w B g n 0 L' := ⟨h.low, h.lt, h.free, h.cells, fun j hj => absurd hj (by omega)⟩
theorem at5_otherJ {w w' : World} {b o : Nat} {v : PS} (h : At5J w b o v) (he : ∀ q, o ≤ q → q < o + 6 → w'.cell? ⟨b, q, none⟩ = w.cell? ⟨b, q, none⟩) : At5J w' b o v := by
  obtain ⟨h0, h1, h2, h3, h4, h5⟩ := h
  exact ⟨(he _ (by omega) (by omega)).trans h0, (he _ (by omega) (by omega)).trans h1, (he _ (by omega) (by omega)).trans h2, (he _ (by omega) (by omega)).trans h3, (he _ (by omega) (by omega)).trans h4, (he _ (by omega) (by omega)).trans h5⟩
theorem FillSJ.more {w : World} {B g n k : Nat} {L : List PS} (h : FillSJ w B g n k L) {v : PS} (hl : L[k]? = some v) (h5 : At5J w g (k * 6) v) : FillSJ w B g n (k + 1) L :=
  ⟨h.low, h.lt, h.free, h.cells, fun j hj => by
    rcases Nat.lt_or_ge j k with h1 | h1
    · exact h.done j h1
    · obtain rfl : j = k := by omega
      exact ⟨v, hl, h5⟩⟩
theorem FillSJ.put {w : World} {B g n k : Nat} {L : List PS} (h : FillSJ w B g n k L) (i : Nat) (hi : k * 6 ≤ i) (u : Value) : FillSJ (w.setCell ⟨g, i, none⟩ u) B g n k L := by
  refine ⟨h.low, by simpa [World.setCell] using h.lt, fun j => (World.frozen?_setCell _ _ _ _).trans (h.free j), fun j hj => ?_, fun j hj => ?_⟩
  · obtain ⟨u', hu'⟩ := h.cells j hj
    by_cases e : j = i
    · subst e; exact ⟨u, World.cell?_setCell_same _ _ _ hu'⟩
    · exact ⟨u', (World.cell?_setCell_other _ _ _ _ (fun h => by injection h with _ h2; exact e h2.symm)).trans hu'⟩
  · obtain ⟨v, hv, h5⟩ := h.done j hj
    refine ⟨v, hv, at5_otherJ h5 fun q h1 h2 => World.cell?_setCell_other _ _ _ _ fun h => ?_⟩
    injection h with _ h3
    omega
theorem FillSJ.puts {B g n k : Nat} {L : List PS} (vs : List Value) : ∀ {w : World} (_ : FillSJ w B g n k L) (i : Nat) (_ : k * 6 ≤ i), FillSJ (setL w g i vs) B g n k L := by
  induction vs with
  | nil => intro w h i hi; exact h
  | cons v vs ih => intro w h i hi; exact ih (h.put i hi v) (i + 1) (by omega)
theorem FillSJ.lay {w : World} {B g n k : Nat} {L : List PS} (h : FillSJ w B g n k L) (hk : k < n) {v : PS} (hl : L[k]? = some v) :
    FillSJ (setL w g (k * 6) [.int .i64 v.ln, .int .i64 v.bg, .int .i64 v.en, .int .i64 v.pi, .int .i64 v.bd, .int .i64 v.co]) B g n (k + 1) L := by
  have hat := setL_at [.int .i64 v.ln, .int .i64 v.bg, .int .i64 v.en, .int .i64 v.pi, .int .i64 v.bd, .int .i64 v.co] w g (k * 6) (fun i hi => h.cells _ (by simp only [List.length_cons, List.length_nil] at hi; omega))
  exact (h.puts [.int .i64 v.ln, .int .i64 v.bg, .int .i64 v.en, .int .i64 v.pi, .int .i64 v.bd, .int .i64 v.co] (k * 6) (Nat.le_refl _)).more hl ⟨hat 0 _ rfl, hat 1 _ rfl, hat 2 _ rfl, hat 3 _ rfl, hat 4 _ rfl, hat 5 _ rfl⟩
theorem infoSoundJ : (Try.prog.info? 40).map (fun i => (i.zero, i.size, i.bytes)) = some (some (.agg #[.int .i64 0, .int .i64 0, .int .i64 0, .int .i64 0, .int .i64 0, .int .i64 0]), 6, 48) := by kernel_rfl
theorem fillS_ownJ {w1 : World} {B g n c : Nat} {cs : List Value} {L : List PS} (h : w1.ownsRow B 40 6 (.slice (some ⟨g, 0, none⟩) n c) n cs) : FillSJ w1 B g n 0 L :=
  ⟨(h.lt g rfl).1, (h.lt g rfl).2, fun j => h.frozenAt j, fun j hj => by
    rw [h.cellAt j (by omega)]
    have h1 := h.1
    exact ⟨_, List.getElem?_eq_getElem (by omega)⟩, fun j hj => absurd hj (by omega)⟩
theorem sds_of_fillJ {w : World} {B g n : Nat} {L : List PS} (h : FillSJ w B g n n L) (hn : L.length = n) : SdsJ w w.heap.size (some ⟨g, 0, none⟩) n L :=
  ⟨hn, fun k hk => by
    obtain ⟨v, hv, h5⟩ := h.done k hk
    exact ⟨g, 0, v, rfl, h.lt, hv, by rw [Nat.zero_add]; exact h5⟩⟩
/-! ### laws.toPass, laws.toPassS -/
set_option maxHeartbeats 1600000 in
theorem toSound_anyJ (v : PS) (w : World) :
    Calls Try.prog 46 #[.agg #[.int .i64 v.ln, .int .i64 v.bg, .int .i64 v.en, .int .i64 v.pi, .int .i64 v.bd, .int .i64 v.co]] w fun e w' => e = .returned (.agg #[.int .i64 v.ln, .int .i64 v.bg, .int .i64 v.en, .int .i64 v.pi, .int .i64 v.bd, .int .i64 v.co]) ∧ Below w.heap.size w w' := by
  go_enter Try.func46, Try.ntmps46
  go_wp2
  refine bodyPost_ret (v := .agg #[.int .i64 v.ln, .int .i64 v.bg, .int .i64 v.en, .int .i64 v.pi, .int .i64 v.bd, .int .i64 v.co]) (by simp [results, Try.results46, go_sem]) rfl ⟨rfl, ?_⟩
  repeat (first | exact Below.refl _ _ | refine Below.setCell ?_ (by simp; try omega) _ | refine Below.alloc ?_ (by simp; try omega) _)
def CopySsJ (L : List PS) (w : World) (e : Ending) (w' : World) : Prop :=
  ∃ g, e = .returned (.slice (some ⟨g, 0, none⟩) L.length L.length) ∧ FillSJ w' w.heap.size g L.length L.length L ∧ Below w.heap.size w w'
set_option maxHeartbeats 1600000 in
theorem copySs_anyJ (A : Option Addr) (n c : Nat) (L : List PS) (w : World) (hs : SdsJ w w.heap.size A n L) (hsz : n ≤ 1048576) :
    Calls Try.prog 49 #[.slice A n c] w (CopySsJ L w) := by
  obtain ⟨i0, hi, hz0, hz1, hz2⟩ := info_parts infoSoundJ
  obtain rfl := hs.1
  have HS := Lib.hid hs
  clear hs
  go_enter Try.func49, Try.ntmps49
  go_wp2_with (at_make; refine wpList_make_full _ rfl _ _ 24 rfl w.heap.size 40 i0 (.agg #[.int .i64 0, .int .i64 0, .int .i64 0, .int .i64 0, .int .i64 0, .int .i64 0]) 6 Try.underlying24 hi hz0 hz1 .i64 .i64 _ _ L.length rfl rfl rfl rfl (by rw [hz2]; omega) (by unfold maxLen; omega) (Nat.le_refl _) ?_; intro w1 hown hgrow)
  have HB0 := Lib.hid ((Below.refl w.heap.size w).grown hgrow (Nat.le_refl _) (fun k e => by cases e))
  have HF0 : Hid (FillSJ w1 w.heap.size w.heap.size L.length 0 L) := fillS_ownJ hown
  clear hown hgrow
  go_loopw [4] (fun i wr => ∃ k : Nat, k ≤ L.length ∧ i = .int .i64 k ∧ Hid (FillSJ wr w.heap.size w.heap.size L.length k L) ∧ Hid (Below w.heap.size w wr)) (fun i _ => L.length - (intOf i).toNat)
  case atStart => exact ⟨0, Nat.zero_le _, rfl, HF0, HB0⟩
  case round =>
    obtain ⟨k, hk, rfl, hF, hB⟩ := hrel
    by_cases hlt : k < L.length
    · obtain ⟨b, o, v, rfl, hb, hL, c0, c1, c2, c3, c4, c5⟩ := (sds_atJ HS.out hB.out).2 k hlt
      have HK := Lib.hid hL
      clear hL
      go_wp2_with fail
      refine (toSound_anyJ v _).mono ?_
      rintro e w1 ⟨rfl, hb'⟩
      have HF1 := Lib.hid (hF.out.next hb')
      have HB1 := Lib.hid (bthen hB.out hb' hB.out.size)
      clear hb' c0 c1 c2 c3 c4 c5
      obtain ⟨v0, h0⟩ := HF1.out.cells (k * 6) (by omega)
      obtain ⟨v1, h1⟩ := HF1.out.cells (k * 6 + 1) (by omega)
      obtain ⟨v2, h2⟩ := HF1.out.cells (k * 6 + 2) (by omega)
      obtain ⟨v3, h3⟩ := HF1.out.cells (k * 6 + 3) (by omega)
      obtain ⟨v4, h4⟩ := HF1.out.cells (k * 6 + 4) (by omega)
      obtain ⟨v5, h5⟩ := HF1.out.cells (k * 6 + 5) (by omega)
      have f0 := HF1.out.free (k * 6)
      have f1 := HF1.out.free (k * 6 + 1)
      have f2 := HF1.out.free (k * 6 + 2)
      have f3 := HF1.out.free (k * 6 + 3)
      have f4 := HF1.out.free (k * 6 + 4)
      have f5 := HF1.out.free (k * 6 + 5)
      have HF2 := Lib.hid (HF1.out.lay hlt HK.out)
      have HB2 := Lib.hid (setL_below [.int .i64 v.ln, .int .i64 v.bg, .int .i64 v.en, .int .i64 v.pi, .int .i64 v.bd, .int .i64 v.co] HB1.out (Nat.le_refl w.heap.size) (k * 6))
      go_wp2_with fail
      go_roundw
      case rel => exact ⟨k + 1, by omega, by go_num, HF2, HB2⟩
      case measure => simp [intOf]; omega
    · obtain rfl : k = L.length := by omega
      have HC : Hid (CopySsJ L w (.returned (.slice (some ⟨w.heap.size, 0, none⟩) L.length L.length)) wr) := Lib.hid ⟨_, rfl, hF.out, hB.out⟩
      go_wp2_with fail
      go_ret
      exact HC
/-! ### laws.eqPass, laws.eqPassS -/
set_option maxHeartbeats 800000 in
theorem eqS_sameJ (v : PS) (w : World) :
    Calls Try.prog 96 #[.agg #[.int .i64 v.ln, .int .i64 v.bg, .int .i64 v.en, .int .i64 v.pi, .int .i64 v.bd, .int .i64 v.co], .agg #[.int .i64 v.ln, .int .i64 v.bg, .int .i64 v.en, .int .i64 v.pi, .int .i64 v.bd, .int .i64 v.co]] w fun e w' => e = .returned (.bool true) ∧ Below w.heap.size w w' := by
  go_enter Try.func96, Try.ntmps96
  go_wp2
  go_ret
  refine ⟨rfl, ?_⟩
  repeat (first | exact Below.refl _ _ | refine Below.alloc ?_ (by simp; try omega) _)
set_option maxHeartbeats 1600000 in
theorem eqSs_sameJ (A A' : Option Addr) (n c c' : Nat) (L : List PS) (w : World) (h1 : SdsJ w w.heap.size A n L) (h2 : SdsJ w w.heap.size A' n L) (hm : n ≤ maxLen) :
    Calls Try.prog 50 #[.slice A n c, .slice A' n c'] w fun e w' => e = .returned (.bool true) ∧ Below w.heap.size w w' := by
  unfold maxLen at hm
  have H1 := Lib.hid h1
  have H2 := Lib.hid h2
  clear h1 h2
  go_enter Try.func50, Try.ntmps50
  go_wp2_with fail
  go_loopw [5] (fun i wr => ∃ k : Nat, k ≤ n ∧ i = .int .i64 k ∧ Hid (Below w.heap.size w wr)) (fun i _ => n - (intOf i).toNat)
  case atStart => exact ⟨0, Nat.zero_le _, rfl, Lib.hid (Below.refl _ _)⟩
  case round =>
    obtain ⟨k, hk, rfl, hB⟩ := hrel
    by_cases hlt : k < n
    · obtain ⟨b1, o1, v, rfl, hb1, hL1, p0, p1, p2, p3, p4, p5⟩ := (sds_atJ H1.out hB.out).2 k hlt
      obtain ⟨b2, o2, v', rfl, hb2, hL2, q0, q1, q2, q3, q4, q5⟩ := (sds_atJ H2.out hB.out).2 k hlt
      obtain rfl : v = v' := Option.some.inj (hL1.symm.trans hL2)
      clear hL1 hL2
      obtain ⟨W0, rfl⟩ : ∃ W : World, W = wr := ⟨_, rfl⟩
      go_wp2_with fail
      have lc0 := lcell (p0)
      have lc1 := lcell (p1)
      have lc2 := lcell (p2)
      have lc3 := lcell (p3)
      have lc4 := lcell (p4)
      have lc5 := lcell (p5)
      have lc6 := lcell (q0)
      have lc7 := lcell (q1)
      have lc8 := lcell (q2)
      have lc9 := lcell (q3)
      have lc10 := lcell (q4)
      have lc11 := lcell (q5)
      refine region_later (W := W0) (by kernel_rfl) (by kernel_rfl) (Below.refl _ _) ?_
      repeat (go_big_quiet_step (((go_at_call 96; go_loud (exact later_call (eqS_sameJ v _))))))
      refine wpQuiet_nil ?_
      intro W1 hW1
      have HL : Hid (Below W0.heap.size W0 W1) := by obtain ⟨x, rfl⟩ := hW1; exact Lib.hid x.below
      clear hW1 lc0 lc1 lc2 lc3 lc4 lc5 lc6 lc7 lc8 lc9 lc10 lc11
      have HT := Lib.hid (bthen hB.out HL.out hB.out.size)
      clear p0 p1 p2 p3 p4 p5 q0 q1 q2 q3 q4 q5
      go_wp2_with fail
      go_roundw
      case rel => exact ⟨k + 1, by omega, by go_num, HT⟩
      case measure => simp [intOf]; omega
    · obtain rfl : k = n := by omega
      go_wp2_with fail
      go_ret
      exact ⟨rfl, hB.out⟩
end Go.Proofs.Ytllfmjnniagjfaa
