/-
  What the laws do with craft: contracts of laws.szCraft, szCraftS, toCraft, toCraftS, eqCraft, eqCraftS over this translation. Conditions: stated at each theorem.
-/
import Derived.Test.YtfffahkommbheaaVo
namespace Go.Proofs.Ytfffahkommbheaa
open Go.RowKit

/-! ### A row of values laid from a place on -/
def setL (w : World) (g o : Nat) : List Value → World
  | [] => w
  | v :: vs => setL (w.setCell ⟨g, o, none⟩ v) g (o + 1) vs
theorem setL_other (vs : List Value) : ∀ (w : World) (g o b q : Nat), (b ≠ g ∨ q < o ∨ o + vs.length ≤ q) → (setL w g o vs).cell? ⟨b, q, none⟩ = w.cell? ⟨b, q, none⟩ := by
  induction vs with
  | nil => intro w g o b q _; rfl
  | cons v vs ih =>
    intro w g o b q h
    simp only [List.length_cons] at h
    show (setL (w.setCell ⟨g, o, none⟩ v) g (o + 1) vs).cell? ⟨b, q, none⟩ = _
    rw [ih _ g (o + 1) b q (by omega)]
    refine World.cell?_setCell_other _ _ _ _ fun e => ?_
    injection e with e1 e2
    omega
theorem setL_at (vs : List Value) : ∀ (w : World) (g o : Nat), (∀ i, i < vs.length → ∃ u, w.cell? ⟨g, o + i, none⟩ = some u) → ∀ i u, vs[i]? = some u → (setL w g o vs).cell? ⟨g, o + i, none⟩ = some u := by
  induction vs with
  | nil => intro w g o _ i u hu; simp at hu
  | cons v vs ih =>
    intro w g o h i u hu
    show (setL (w.setCell ⟨g, o, none⟩ v) g (o + 1) vs).cell? ⟨g, o + i, none⟩ = some u
    obtain ⟨u0, hu0⟩ := h 0 (by simp)
    cases i with
    | zero =>
      have e : v = u := by simpa using hu
      subst e
      rw [setL_other vs _ g (o + 1) g (o + 0) (by omega)]
      exact World.cell?_setCell_same _ _ _ hu0
    | succ i =>
      have := ih (w.setCell ⟨g, o, none⟩ v) g (o + 1) (fun j hj => by
        obtain ⟨u1, hu1⟩ := h (j + 1) (by simp; omega)
        refine ⟨u1, (World.cell?_setCell_other _ _ _ _ fun e => ?_).trans ?_⟩
        · injection e with e1 e2; omega
        · rw [show o + 1 + j = o + (j + 1) by omega]; exact hu1) i u (by simpa using hu)
      rwa [show o + 1 + i = o + (i + 1) by omega] at this
theorem setL_frozen (vs : List Value) : ∀ (w : World) (g o : Nat) (p : Addr), (setL w g o vs).frozen? p = w.frozen? p := by
  induction vs with
  | nil => intro w g o p; rfl
  | cons v vs ih => intro w g o p; exact (ih _ _ _ _).trans (World.frozen?_setCell _ _ _ _)
theorem setL_size (vs : List Value) : ∀ (w : World) (g o : Nat), (setL w g o vs).heap.size = w.heap.size := by
  induction vs with
  | nil => intro w g o; rfl
  | cons v vs ih => intro w g o; exact (ih _ _ _).trans (by simp [World.setCell])
theorem setL_below (vs : List Value) : ∀ {B : Nat} {a w : World} (_ : Below B a w) {g : Nat} (_ : B ≤ g) (o : Nat), Below B a (setL w g o vs) := by
  induction vs with
  | nil => intro B a w h g hg o; exact h
  | cons v vs ih => intro B a w h g hg o; exact ih (h.setCell (p := ⟨g, o, none⟩) hg v) hg (o + 1)

/-! ### laws.szCraft, laws.szCraftS -/
theorem szC_pos (v : CC) (m : Int) (w : World) (hm : m ≤ 1048576) (h : (v.nm.size : Int) ≤ m) :
    Calls Try.prog 33 #[.agg #[.int .i64 v.id, .string v.nm, .int .i64 v.dr, .int .i64 v.ah, .int .i64 v.be, .int .i64 v.sp, .int .i64 v.fu], .int .i64 m] w fun e w' => e = .returned (.int .i64 (m - v.nm.size)) ∧ Below w.heap.size w w' := by
  go_enter Try.func33, Try.ntmps33
  go_wp2_with fail
  go_ret
  exact ⟨rfl, (Below.refl _ _).alloc (Nat.le_refl _) _⟩
theorem szC_neg (v : CC) (m : Int) (w : World) (h0 : 0 ≤ m) (hm : m ≤ 1048576) (hn : v.nm.size ≤ maxLen) (h : m < v.nm.size) :
    Calls Try.prog 33 #[.agg #[.int .i64 v.id, .string v.nm, .int .i64 v.dr, .int .i64 v.ah, .int .i64 v.be, .int .i64 v.sp, .int .i64 v.fu], .int .i64 m] w fun e w' => e = .returned (.int .i64 (-1)) ∧ Below w.heap.size w w' := by
  unfold maxLen at hn
  go_enter Try.func33, Try.ntmps33
  go_wp2_with fail
  go_ret
  exact ⟨rfl, (Below.refl _ _).alloc (Nat.le_refl _) _⟩
def szCL : List CC → Nat
  | [] => 0
  | v :: t => v.nm.size + szCL t
theorem szCL_snoc (L : List CC) (v : CC) : szCL (L ++ [v]) = szCL L + v.nm.size := by
  induction L with
  | nil => simp [szCL]
  | cons x t ih => simp only [List.cons_append, szCL, ih]; omega
theorem szCL_take {L : List CC} {k : Nat} {v : CC} (h : L[k]? = some v) : szCL (L.take (k + 1)) = szCL (L.take k) + v.nm.size := by
  obtain ⟨hk, rfl⟩ := List.getElem?_eq_some_iff.1 h
  rw [List.take_succ_eq_append_getElem hk, szCL_snoc]
theorem szCL_le (L : List CC) (k : Nat) : szCL (L.take k) ≤ szCL L := by
  induction L generalizing k with
  | nil => simp [szCL]
  | cons x t ih =>
    cases k with
    | zero => simp [szCL]
    | succ k => have := ih k; simp only [List.take_succ_cons, szCL]; omega
theorem szCL_at {L : List CC} {k : Nat} {v : CC} (h : L[k]? = some v) : v.nm.size ≤ szCL L := by
  have h1 := szCL_take h
  have h2 := szCL_le L (k + 1)
  omega
set_option maxHeartbeats 800000 in
theorem szCs_pos (A : Option Addr) (n c : Nat) (L : List CC) (w : World) (hs : Crafts w w.heap.size A n L) (h : n + szCL L ≤ 1048576) :
    Calls Try.prog 37 #[.slice A n c, .int .i64 1048576] w fun e w' => e = .returned (.int .i64 ((1048576 : Int) - n - (szCL L : Nat))) ∧ Below w.heap.size w w' := by
  obtain rfl := hs.1
  have HS := Lib.hid hs
  clear hs
  go_enter Try.func37, Try.ntmps37
  go_wp2_with fail
  go_loopw [1, 5] (fun s i wr => ∃ k m : Nat, k ≤ L.length ∧ i = .int .i64 k ∧ m + szCL (L.take k) + L.length = 1048576 ∧ s = .int .i64 m ∧ Hid (Below w.heap.size w wr)) (fun _ i _ => L.length - (intOf i).toNat)
  case atStart => exact ⟨0, 1048576 - L.length, Nat.zero_le _, rfl, by simp [szCL]; omega, by rw [show ((1048576 - L.length : Nat) : Int) = 1048576 - (L.length : Int) by omega], Lib.hid (Below.refl _ _)⟩
  case round =>
    obtain ⟨k, m, hk, rfl, hm, rfl, hB⟩ := hrel
    by_cases hlt : k < L.length
    · obtain ⟨b, o, v, rfl, hb, hL, hn, c0, c1, c2, c3, c4, c5, c6⟩ := (HS.out.on hB.out (Nat.le_refl _)).2 k hlt
      have h1 := szCL_take hL
      have h2 := szCL_le L (k + 1)
      clear hL
      go_wp2_with fail
      refine (szC_pos v _ _ (by omega) (by omega)).mono ?_
      rintro e w1 ⟨rfl, hb'⟩
      have HB := Lib.hid (bthen hB.out hb' hB.out.size)
      clear hb' c0 c1 c2 c3 c4 c5 c6
      have h3 : 0 ≤ (m : Int) - v.nm.size := by omega
      go_wp2_with fail
      go_roundw
      case rel => exact ⟨k + 1, m - v.nm.size, by omega, by go_num, by omega, by rw [show ((m - v.nm.size : Nat) : Int) = (m : Int) - v.nm.size by omega], HB⟩
      case measure => simp [intOf]; omega
    · obtain rfl : k = L.length := by omega
      rw [List.take_of_length_le (Nat.le_refl _)] at hm
      have HR : Hid ((m : Int) = (1048576 : Int) - L.length - (szCL L : Nat)) := by unfold Hid; omega
      go_wp2_with fail
      go_ret
      exact ⟨ret_int HR.out, hB.out⟩
set_option maxHeartbeats 800000 in
theorem szCs_neg (A : Option Addr) (n c : Nat) (L : List CC) (w : World) (hs : Crafts w w.heap.size A n L) (hm : n ≤ maxLen) (h : ¬ n + szCL L ≤ 1048576) :
    Calls Try.prog 37 #[.slice A n c, .int .i64 1048576] w fun e w' => e = .returned (.int .i64 (-1)) ∧ Below w.heap.size w w' := by
  obtain rfl := hs.1
  have HS := Lib.hid hs
  clear hs
  unfold maxLen at hm
  by_cases h0 : (1048576 : Int) < L.length
  · go_enter Try.func37, Try.ntmps37
    go_wp2_with fail
    go_ret
    exact ⟨rfl, Below.refl _ _⟩
  go_enter Try.func37, Try.ntmps37
  go_wp2_with fail
  go_loopw [1, 5] (fun s i wr => ∃ k m : Nat, k ≤ L.length ∧ i = .int .i64 k ∧ m + szCL (L.take k) + L.length = 1048576 ∧ s = .int .i64 m ∧ Hid (Below w.heap.size w wr)) (fun _ i _ => L.length - (intOf i).toNat)
  case atStart => exact ⟨0, 1048576 - L.length, Nat.zero_le _, rfl, by simp [szCL]; omega, by rw [show ((1048576 - L.length : Nat) : Int) = 1048576 - (L.length : Int) by omega], Lib.hid (Below.refl _ _)⟩
  case round =>
    obtain ⟨k, m, hk, rfl, hm', rfl, hB⟩ := hrel
    by_cases hlt : k < L.length
    · obtain ⟨b, o, v, rfl, hb, hL, hn, c0, c1, c2, c3, c4, c5, c6⟩ := (HS.out.on hB.out (Nat.le_refl _)).2 k hlt
      have h1 := szCL_take hL
      clear hL
      by_cases hfit : v.nm.size ≤ m
      · go_wp2_with fail
        refine (szC_pos v _ _ (by omega) (by omega)).mono ?_
        rintro e w1 ⟨rfl, hb'⟩
        have HB := Lib.hid (bthen hB.out hb' hB.out.size)
        clear hb' c0 c1 c2 c3 c4 c5 c6
        have h3 : 0 ≤ (m : Int) - v.nm.size := by omega
        go_wp2_with fail
        go_roundw
        case rel => exact ⟨k + 1, m - v.nm.size, by omega, by go_num, by omega, by rw [show ((m - v.nm.size : Nat) : Int) = (m : Int) - v.nm.size by omega], HB⟩
        case measure => simp [intOf]; omega
      · go_wp2_with fail
        refine (szC_neg v _ _ (by omega) (by omega) hn (by omega)).mono ?_
        rintro e w1 ⟨rfl, hb'⟩
        have HB := Lib.hid (bthen hB.out hb' hB.out.size)
        clear hb' c0 c1 c2 c3 c4 c5 c6
        go_wp2_with fail
        go_ret
        exact ⟨rfl, HB.out⟩
    · obtain rfl : k = L.length := by omega
      rw [List.take_of_length_le (Nat.le_refl _)] at hm'
      exact absurd (show L.length + szCL L ≤ 1048576 by omega) h
/-! ### laws.toCraft, laws.toCraftS -/
set_option maxHeartbeats 1600000 in
theorem toCraft_any (v : CC) (w : World) :
    Calls Try.prog 35 #[.agg #[.int .i64 v.id, .string v.nm, .int .i64 v.dr, .int .i64 v.ah, .int .i64 v.be, .int .i64 v.sp, .int .i64 v.fu]] w fun e w' => e = .returned (.agg #[.int .i64 v.id, .string v.nm, .int .i64 v.dr, .int .i64 v.ah, .int .i64 v.be, .int .i64 v.sp, .int .i64 v.fu]) ∧ Below w.heap.size w w' := by
  go_enter Try.func35, Try.ntmps35
  go_wp2
  refine bodyPost_ret (v := .agg #[.int .i64 v.id, .string v.nm, .int .i64 v.dr, .int .i64 v.ah, .int .i64 v.be, .int .i64 v.sp, .int .i64 v.fu]) (by simp [results, Try.results35, go_sem]) rfl ⟨rfl, ?_⟩
  repeat (first | exact Below.refl _ _ | refine Below.setCell ?_ (by simp; try omega) _ | refine Below.alloc ?_ (by simp; try omega) _)
/-- Block g holds n craft, the first k of which are those of L; all may be written. -/
structure FillC (w : World) (B g n k : Nat) (L : List CC) : Prop where
  low : B ≤ g
  lt : g < w.heap.size
  free : ∀ j, w.frozen? ⟨g, j, none⟩ = false
  cells : ∀ j, j < n * 7 → ∃ u, w.cell? ⟨g, j, none⟩ = some u
  done : ∀ j, j < k → ∃ v, L[j]? = some v ∧ At7 w g (j * 7) v
theorem FillC.on {w w' : World} {B B' g n k : Nat} {L : List CC} (h : FillC w B g n k L) (hb : Below B' w w') (hg : g < B') (hs : w.heap.size ≤ w'.heap.size) : FillC w' B g n k L :=
  ⟨h.low, Nat.lt_of_lt_of_le h.lt hs, fun j => (hb.frozen (p := ⟨g, j, none⟩) hg).trans (h.free j), fun j hj => by
    obtain ⟨u, hu⟩ := h.cells j hj
    exact ⟨u, (hb.cell (p := ⟨g, j, none⟩) hg).trans hu⟩, fun j hj => by
    obtain ⟨v, hv, h7⟩ := h.done j hj
    exact ⟨v, hv, h7.on hb hg⟩⟩
theorem FillC.next {w w' : World} {B g n k : Nat} {L : List CC} (h : FillC w B g n k L) (hb : Below w.heap.size w w') : FillC w' B g n k L := h.on hb h.lt hb.size
theorem FillC.wide {w : World} {B B' g n k : Nat} {L : List CC} (h : FillC w B g n k L) (hB : B' ≤ B) : FillC w B' g n k L := ⟨Nat.le_trans hB h.low, h.lt, h.free, h.cells, h.done⟩
theorem FillC.bare {w : World} {B g n k : Nat} {L : List CC} (h : FillC w B g n k L) (L' : List CC) : FillC w B g n 0 L' := ⟨h.low, h.lt, h.free, h.cells, fun j hj => absurd hj (by omega)⟩
theorem at7_other {w w' : World} {b o : Nat} {v : CC} (h : At7 w b o v) (he : ∀ q, o ≤ q → q < o + 7 → w'.cell? ⟨b, q, none⟩ = w.cell? ⟨b, q, none⟩) : At7 w' b o v := by
  obtain ⟨h0, h1, h2, h3, h4, h5, h6⟩ := h
  exact ⟨(he _ (by omega) (by omega)).trans h0, (he _ (by omega) (by omega)).trans h1, (he _ (by omega) (by omega)).trans h2, (he _ (by omega) (by omega)).trans h3, (he _ (by omega) (by omega)).trans h4, (he _ (by omega) (by omega)).trans h5, (he _ (by omega) (by omega)).trans h6⟩
theorem FillC.more {w : World} {B g n k : Nat} {L : List CC} (h : FillC w B g n k L) {v : CC} (hl : L[k]? = some v) (h7 : At7 w g (k * 7) v) : FillC w B g n (k + 1) L :=
  ⟨h.low, h.lt, h.free, h.cells, fun j hj => by
    rcases Nat.lt_or_ge j k with h1 | h1
    · exact h.done j h1
    · obtain rfl : j = k := by omega
      exact ⟨v, hl, h7⟩⟩
theorem FillC.put {w : World} {B g n k : Nat} {L : List CC} (h : FillC w B g n k L) (i : Nat) (hi : k * 7 ≤ i) (u : Value) : FillC (w.setCell ⟨g, i, none⟩ u) B g n k L := by
  refine ⟨h.low, by simpa [World.setCell] using h.lt, fun j => (World.frozen?_setCell _ _ _ _).trans (h.free j), fun j hj => ?_, fun j hj => ?_⟩
  · obtain ⟨u', hu'⟩ := h.cells j hj
    by_cases e : j = i
    · subst e; exact ⟨u, World.cell?_setCell_same _ _ _ hu'⟩
    · exact ⟨u', (World.cell?_setCell_other _ _ _ _ (fun h => by injection h with _ h2; exact e h2.symm)).trans hu'⟩
  · obtain ⟨v, hv, h7⟩ := h.done j hj
    refine ⟨v, hv, at7_other h7 fun q h1 h2 => World.cell?_setCell_other _ _ _ _ fun h => ?_⟩
    injection h with _ h3
    omega
theorem FillC.puts {B g n k : Nat} {L : List CC} (vs : List Value) : ∀ {w : World} (_ : FillC w B g n k L) (i : Nat) (_ : k * 7 ≤ i), FillC (setL w g i vs) B g n k L := by
  induction vs with
  | nil => intro w h i hi; exact h
  | cons v vs ih => intro w h i hi; exact ih (h.put i hi v) (i + 1) (by omega)
theorem FillC.lay {w : World} {B g n k : Nat} {L : List CC} (h : FillC w B g n k L) (hk : k < n) {v : CC} (hl : L[k]? = some v) :
    FillC (setL w g (k * 7) [.int .i64 v.id, .string v.nm, .int .i64 v.dr, .int .i64 v.ah, .int .i64 v.be, .int .i64 v.sp, .int .i64 v.fu]) B g n (k + 1) L := by
  have hat := setL_at [.int .i64 v.id, .string v.nm, .int .i64 v.dr, .int .i64 v.ah, .int .i64 v.be, .int .i64 v.sp, .int .i64 v.fu] w g (k * 7) (fun i hi => h.cells _ (by simp only [List.length_cons, List.length_nil] at hi; omega))
  exact (h.puts [.int .i64 v.id, .string v.nm, .int .i64 v.dr, .int .i64 v.ah, .int .i64 v.be, .int .i64 v.sp, .int .i64 v.fu] (k * 7) (Nat.le_refl _)).more hl ⟨hat 0 _ rfl, hat 1 _ rfl, hat 2 _ rfl, hat 3 _ rfl, hat 4 _ rfl, hat 5 _ rfl, hat 6 _ rfl⟩
theorem infoCraft : (Try.prog.info? 31).map (fun i => (i.zero, i.size, i.bytes)) = some (some (.agg #[.int .i64 0, .string ⟨#[]⟩, .int .i64 0, .int .i64 0, .int .i64 0, .int .i64 0, .int .i64 0]), 7, 64) := by kernel_rfl
theorem fillC_own {w1 : World} {B g n c : Nat} {cs : List Value} {L : List CC} (h : w1.ownsRow B 31 7 (.slice (some ⟨g, 0, none⟩) n c) n cs) : FillC w1 B g n 0 L :=
  ⟨(h.lt g rfl).1, (h.lt g rfl).2, fun j => h.frozenAt j, fun j hj => by
    rw [h.cellAt j (by omega)]
    have h1 := h.1
    exact ⟨_, List.getElem?_eq_getElem (by omega)⟩, fun j hj => absurd hj (by omega)⟩
theorem crafts_of_fill {w : World} {B g n : Nat} {L : List CC} (h : FillC w B g n n L) (hn : L.length = n) (hz : ∀ v ∈ L, v.nm.size ≤ maxLen) : Crafts w w.heap.size (some ⟨g, 0, none⟩) n L :=
  ⟨hn, fun k hk => by
    obtain ⟨v, hv, h7⟩ := h.done k hk
    exact ⟨g, 0, v, rfl, h.lt, hv, hz v (List.mem_of_getElem? hv), by rw [Nat.zero_add]; exact h7⟩⟩
theorem small_of {L : List CC} {n : Nat} (h : n + szCL L ≤ 1048576) : ∀ v ∈ L, v.nm.size ≤ maxLen := fun v hv => by
  obtain ⟨j, hj⟩ := List.mem_iff_getElem?.1 hv
  have := szCL_at hj
  unfold maxLen; omega
theorem small_cr {w : World} {B n : Nat} {A : Option Addr} {L : List CC} (h : Crafts w B A n L) : ∀ v ∈ L, v.nm.size ≤ maxLen := fun v hv => by
  obtain ⟨j, hj⟩ := List.mem_iff_getElem?.1 hv
  obtain ⟨hl, _⟩ := List.getElem?_eq_some_iff.1 hj
  obtain ⟨_, _, v', _, _, hv', hn, _⟩ := h.2 j (by have := h.1; omega)
  obtain rfl : v = v' := Option.some.inj (hj.symm.trans hv')
  exact hn
def CopyCs (L : List CC) (w : World) (e : Ending) (w' : World) : Prop :=
  ∃ g, e = .returned (.slice (some ⟨g, 0, none⟩) L.length L.length) ∧ FillC w' w.heap.size g L.length L.length L ∧ Below w.heap.size w w'
set_option maxHeartbeats 1600000 in
theorem copyCs_any (A : Option Addr) (n c : Nat) (L : List CC) (w : World) (hs : Crafts w w.heap.size A n L) (hsz : n + szCL L ≤ 1048576) :
    Calls Try.prog 38 #[.slice A n c] w (CopyCs L w) := by
  obtain ⟨i0, hi, hz0, hz1, hz2⟩ := info_parts infoCraft
  obtain rfl := hs.1
  have HS := Lib.hid hs
  clear hs
  go_enter Try.func38, Try.ntmps38
  go_wp2_with (at_make; refine wpList_make_full _ rfl _ _ 24 rfl w.heap.size 31 i0 (.agg #[.int .i64 0, .string ⟨#[]⟩, .int .i64 0, .int .i64 0, .int .i64 0, .int .i64 0, .int .i64 0]) 7 Try.underlying24 hi hz0 hz1 .i64 .i64 _ _ L.length rfl rfl rfl rfl (by rw [hz2]; omega) (by unfold maxLen; omega) (Nat.le_refl _) ?_; intro w1 hown hgrow)
  have HB0 := Lib.hid ((Below.refl w.heap.size w).grown hgrow (Nat.le_refl _) (fun k e => by cases e))
  have HF0 : Hid (FillC w1 w.heap.size w.heap.size L.length 0 L) := fillC_own hown
  clear hown hgrow
  go_loopw [4] (fun i wr => ∃ k : Nat, k ≤ L.length ∧ i = .int .i64 k ∧ Hid (FillC wr w.heap.size w.heap.size L.length k L) ∧ Hid (Below w.heap.size w wr)) (fun i _ => L.length - (intOf i).toNat)
  case atStart => exact ⟨0, Nat.zero_le _, rfl, HF0, HB0⟩
  case round =>
    obtain ⟨k, hk, rfl, hF, hB⟩ := hrel
    by_cases hlt : k < L.length
    · obtain ⟨b, o, v, rfl, hb, hL, hn, c0, c1, c2, c3, c4, c5, c6⟩ := (crafts_at HS.out hB.out).2 k hlt
      have HK := Lib.hid hL
      clear hL
      go_wp2_with fail
      refine (toCraft_any v _).mono ?_
      rintro e w1 ⟨rfl, hb'⟩
      have HF1 := Lib.hid (hF.out.next hb')
      have HB1 := Lib.hid (bthen hB.out hb' hB.out.size)
      clear hb' c0 c1 c2 c3 c4 c5 c6
      obtain ⟨v0, h0⟩ := HF1.out.cells (k * 7) (by omega)
      obtain ⟨v1, h1⟩ := HF1.out.cells (k * 7 + 1) (by omega)
      obtain ⟨v2, h2⟩ := HF1.out.cells (k * 7 + 2) (by omega)
      obtain ⟨v3, h3⟩ := HF1.out.cells (k * 7 + 3) (by omega)
      obtain ⟨v4, h4⟩ := HF1.out.cells (k * 7 + 4) (by omega)
      obtain ⟨v5, h5⟩ := HF1.out.cells (k * 7 + 5) (by omega)
      obtain ⟨v6, h6⟩ := HF1.out.cells (k * 7 + 6) (by omega)
      have f0 := HF1.out.free (k * 7)
      have f1 := HF1.out.free (k * 7 + 1)
      have f2 := HF1.out.free (k * 7 + 2)
      have f3 := HF1.out.free (k * 7 + 3)
      have f4 := HF1.out.free (k * 7 + 4)
      have f5 := HF1.out.free (k * 7 + 5)
      have f6 := HF1.out.free (k * 7 + 6)
      have HF2 := Lib.hid (HF1.out.lay hlt HK.out)
      have HB2 := Lib.hid (setL_below [.int .i64 v.id, .string v.nm, .int .i64 v.dr, .int .i64 v.ah, .int .i64 v.be, .int .i64 v.sp, .int .i64 v.fu] HB1.out (Nat.le_refl w.heap.size) (k * 7))
      go_wp2_with fail
      go_roundw
      case rel => exact ⟨k + 1, by omega, by go_num, HF2, HB2⟩
      case measure => simp [intOf]; omega
    · obtain rfl : k = L.length := by omega
      have HC : Hid (CopyCs L w (.returned (.slice (some ⟨w.heap.size, 0, none⟩) L.length L.length)) wr) := Lib.hid ⟨_, rfl, hF.out, hB.out⟩
      go_wp2_with fail
      go_ret
      exact HC
/-! ### laws.eqCraft, laws.eqCraftS -/
set_option maxHeartbeats 800000 in
theorem eqC_same (v : CC) (w : World) :
    Calls Try.prog 102 #[.agg #[.int .i64 v.id, .string v.nm, .int .i64 v.dr, .int .i64 v.ah, .int .i64 v.be, .int .i64 v.sp, .int .i64 v.fu], .agg #[.int .i64 v.id, .string v.nm, .int .i64 v.dr, .int .i64 v.ah, .int .i64 v.be, .int .i64 v.sp, .int .i64 v.fu]] w fun e w' => e = .returned (.bool true) ∧ Below w.heap.size w w' := by
  go_enter Try.func102, Try.ntmps102
  go_wp2
  go_ret
  refine ⟨rfl, ?_⟩
  repeat (first | exact Below.refl _ _ | refine Below.alloc ?_ (by simp; try omega) _)
set_option maxHeartbeats 1600000 in
theorem eqCs_same (A A' : Option Addr) (n c c' : Nat) (L : List CC) (w : World) (h1 : Crafts w w.heap.size A n L) (h2 : Crafts w w.heap.size A' n L) (hm : n ≤ maxLen) :
    Calls Try.prog 39 #[.slice A n c, .slice A' n c'] w fun e w' => e = .returned (.bool true) ∧ Below w.heap.size w w' := by
  unfold maxLen at hm
  have H1 := Lib.hid h1
  have H2 := Lib.hid h2
  clear h1 h2
  go_enter Try.func39, Try.ntmps39
  go_wp2_with fail
  go_loopw [5] (fun i wr => ∃ k : Nat, k ≤ n ∧ i = .int .i64 k ∧ Hid (Below w.heap.size w wr)) (fun i _ => n - (intOf i).toNat)
  case atStart => exact ⟨0, Nat.zero_le _, rfl, Lib.hid (Below.refl _ _)⟩
  case round =>
    obtain ⟨k, hk, rfl, hB⟩ := hrel
    by_cases hlt : k < n
    · obtain ⟨b1, o1, v, rfl, hb1, hL1, hn1, p0, p1, p2, p3, p4, p5, p6⟩ := (crafts_at H1.out hB.out).2 k hlt
      obtain ⟨b2, o2, v', rfl, hb2, hL2, hn2, q0, q1, q2, q3, q4, q5, q6⟩ := (crafts_at H2.out hB.out).2 k hlt
      obtain rfl : v = v' := Option.some.inj (hL1.symm.trans hL2)
      clear hL1 hL2
      obtain ⟨W0, rfl⟩ : ∃ W : World, W = wr := ⟨_, rfl⟩
      go_wp2_with fail
      have lc0 := lcell (p0)
      have lc1 := lcell (p1)
      have lc2 := lcell (p2)
      have lc3 := lcell (p3)
      have lc4 := lcell (p4)
      have lc5 := lcell (p5)
      have lc6 := lcell (p6)
      have lc7 := lcell (q0)
      have lc8 := lcell (q1)
      have lc9 := lcell (q2)
      have lc10 := lcell (q3)
      have lc11 := lcell (q4)
      have lc12 := lcell (q5)
      have lc13 := lcell (q6)
      refine region_later (W := W0) (by kernel_rfl) (by kernel_rfl) (Below.refl _ _) ?_
      repeat (go_big_quiet_step (((go_at_call 102; go_loud (exact later_call (eqC_same v _))))))
      refine wpQuiet_nil ?_
      intro W1 hW1
      have HL : Hid (Below W0.heap.size W0 W1) := by obtain ⟨x, rfl⟩ := hW1; exact Lib.hid x.below
      clear hW1 lc0 lc1 lc2 lc3 lc4 lc5 lc6 lc7 lc8 lc9 lc10 lc11 lc12 lc13
      have HT := Lib.hid (bthen hB.out HL.out hB.out.size)
      clear p0 p1 p2 p3 p4 p5 p6 q0 q1 q2 q3 q4 q5 q6
      go_wp2_with fail
      go_roundw
      case rel => exact ⟨k + 1, by omega, by go_num, HT⟩
      case measure => simp [intOf]; omega
    · obtain rfl : k = n := by omega
      go_wp2_with fail
      go_ret
      exact ⟨rfl, hB.out⟩
end Go.Proofs.Ytfffahkommbheaa
