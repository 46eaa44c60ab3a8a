/-
  Rows of numbers of the call's own; contracts of laws.eqIntS, laws.markIntS, laws.heldIntS, laws.markSpotS over this translation. Conditions: stated at each theorem.
-/
import Derived.Test.YtjnimedbjmihaaaRow
namespace Go.Proofs.Ytjnimedbjmihaaa
open Go.RowKit

/-- The slice value with address A and n elements holds the numbers f 0, f 1 ..; its block lies from lo on and below hi, and may be written. -/
def IFun (w : World) (lo hi : Nat) (A : Option Addr) (n : Nat) (f : Nat → Int) : Prop :=
  ∀ k, k < n → ∃ g : Nat, A = some ⟨g, 0, none⟩ ∧ lo ≤ g ∧ g < hi ∧ w.cell? ⟨g, k, none⟩ = some (.int .i64 (f k)) ∧ w.frozen? ⟨g, k, none⟩ = false
theorem IFun.on {w w' : World} {lo hi B n : Nat} {A : Option Addr} {f : Nat → Int} (h : IFun w lo hi A n f) (hb : Below B w w') (hB : hi ≤ B) : IFun w' lo hi A n f := fun k hk => by
  obtain ⟨g, hA, h1, h2, h3, h4⟩ := h k hk
  exact ⟨g, hA, h1, h2, (hb.cell (p := ⟨g, k, none⟩) (Nat.lt_of_lt_of_le h2 hB)).trans h3, (hb.frozen (p := ⟨g, k, none⟩) (Nat.lt_of_lt_of_le h2 hB)).trans h4⟩
theorem IFun.congr {w : World} {lo hi n : Nat} {A : Option Addr} {f f' : Nat → Int} (h : IFun w lo hi A n f) (he : ∀ k, k < n → f k = f' k) : IFun w lo hi A n f' := fun k hk => by
  obtain ⟨g, hA, h1, h2, h3, h4⟩ := h k hk
  exact ⟨g, hA, h1, h2, by rw [← he k hk]; exact h3, h4⟩
theorem IFun.wide {w : World} {lo hi lo' hi' n : Nat} {A : Option Addr} {f : Nat → Int} (h : IFun w lo hi A n f) (h1 : lo' ≤ lo) (h2 : hi ≤ hi') : IFun w lo' hi' A n f := fun k hk => by
  obtain ⟨g, hA, a, b, c⟩ := h k hk
  exact ⟨g, hA, Nat.le_trans h1 a, Nat.lt_of_lt_of_le b h2, c⟩
/-- Outside of the blocks from lo on and below hi nothing old has turned. -/
structure Far (lo hi : Nat) (w w' : World) : Prop where
  os : w'.os = w.os
  tape : w'.tape = w.tape
  output : w'.output = w.output
  size : w'.heap.size = w.heap.size
  block : ∀ k, k < w.heap.size → (k < lo ∨ hi ≤ k) → w'.heap[k]? = w.heap[k]?
theorem Far.refl (lo hi : Nat) (w : World) : Far lo hi w w := ⟨rfl, rfl, rfl, rfl, fun _ _ _ => rfl⟩
theorem Far.setCell {lo hi : Nat} {a w : World} (h : Far lo hi a w) {p : Addr} (h1 : lo ≤ p.block) (h2 : p.block < hi) (u : Value) : Far lo hi a (w.setCell p u) :=
  ⟨h.os, h.tape, h.output, by simpa [World.setCell] using h.size, fun k hk ho => (Below.heap_setCell _ _ _ _ (by omega)).trans (h.block k hk ho)⟩
theorem Far.below {lo hi : Nat} {w w' : World} (h : Far lo hi w w') {B : Nat} (hB : B ≤ lo) (hs : B ≤ w.heap.size) : Below B w w' :=
  ⟨h.os, h.tape, h.output, Nat.le_of_eq h.size.symm, fun k hk => h.block k (by omega) (.inl (by omega))⟩
theorem IFun.far {w w' : World} {lo hi lo' hi' n : Nat} {A : Option Addr} {f : Nat → Int} (h : IFun w lo hi A n f) (hf : Far lo' hi' w w') (hs : hi ≤ w.heap.size) (hd : hi ≤ lo' ∨ hi' ≤ lo) : IFun w' lo hi A n f := fun k hk => by
  obtain ⟨g, hA, h1, h2, h3, h4⟩ := h k hk
  have hb := hf.block g (by omega) (by omega)
  exact ⟨g, hA, h1, h2, (World.cell?_of_block (a := ⟨g, k, none⟩) hb).trans h3, (World.frozen?_of_block (a := ⟨g, k, none⟩) hb).trans h4⟩
theorem IFun.set {w : World} {lo hi n g k : Nat} {f : Nat → Int} (h : IFun w lo hi (some ⟨g, 0, none⟩) n f) (v : Int) : IFun (w.setCell ⟨g, k, none⟩ (.int .i64 v)) lo hi (some ⟨g, 0, none⟩) n (fun j => if j = k then v else f j) := fun j hj => by
  obtain ⟨g', hA, h1, h2, h3, h4⟩ := h j hj
  have e : g' = g := by injection hA with h; injection h with h; exact h.symm
  subst e
  refine ⟨g', rfl, h1, h2, ?_, (World.frozen?_setCell _ _ _ _).trans h4⟩
  by_cases hjk : j = k
  · subst hjk
    dsimp only
    rw [if_pos rfl]
    exact World.cell?_setCell_same _ _ _ h3
  · dsimp only
    rw [if_neg hjk]
    exact (World.cell?_setCell_other _ _ _ _ (by simp; try omega)).trans h3
theorem ifun_of_own {w : World} {B n c : Nat} {A : Option Addr} {xs : List Int} (h : w.ownsRow B 3 1 (.slice A n c) n (xs.map (Value.int .i64))) : IFun w B w.heap.size A n (fun j => xs.getD j 0) := fun k hk => by
  have hl : xs.length = n := by simpa using h.1
  obtain ⟨g, hA⟩ : ∃ g : Nat, A = some ⟨g, 0, none⟩ := by
    rcases h.2 with ⟨_, h0⟩ | ⟨g, cap, cur, hv, _⟩
    · omega
    · exact ⟨g, by injection hv⟩
  subst hA
  refine ⟨g, rfl, (h.lt g rfl).1, (h.lt g rfl).2, ?_, h.frozenAt k⟩
  rw [h.cellAt k (by omega)]
  simp [List.getD, hl, hk]

/-! ### laws.eqIntS -/
set_option maxHeartbeats 800000 in
theorem eqI_same (A A' : Option Addr) (n c c' lo hi lo' hi' : Nat) (f : Nat → Int) (w : World) (h1 : IFun w lo hi A n f) (h2 : IFun w lo' hi' A' n f) (hm : n ≤ 1048576) :
    Calls Try.prog 50 #[.slice A n c, .slice A' n c'] w fun e w' => e = .returned (.bool true) ∧ ∃ k, w' = w.drewN k := by
  have H1 := Lib.hid h1
  have H2 := Lib.hid h2
  clear h1 h2
  go_enter Try.func50, Try.ntmps50
  go_wp2
  go_loopw [5] (fun i wr => ∃ k d : Nat, k ≤ n ∧ i = .int .i64 k ∧ wr = w.drewN d) (fun i _ => n - (intOf i).toNat)
  case atStart => exact ⟨0, 0, Nat.zero_le _, rfl, by rw [World.drewN_zero]⟩
  case round =>
    obtain ⟨k, d, hk, rfl, rfl⟩ := hrel
    by_cases hlt : k < n
    · obtain ⟨g, rfl, _, _, hc1, _⟩ := H1.out k hlt
      obtain ⟨g', rfl, _, _, hc2, _⟩ := H2.out k hlt
      go_wp2_with fail
      go_quiet (fail)
      go_wp2
      go_roundw
      case rel => exact ⟨k + 1, _, by omega, by go_num, rfl⟩
      case measure => simp [intOf]; omega
    · go_wp2
      go_ret
      exact ⟨rfl, _, rfl⟩

/-! ### laws.markIntS, laws.heldIntS -/
def MarkPost (lo hi : Nat) (A : Option Addr) (n : Nat) (w : World) (e : Ending) (w' : World) : Prop :=
  e = .returned (.int .i64 ((n : Int) + 1)) ∧ IFun w' lo hi A n (fun j => (j : Int) + 1) ∧ Far lo hi w w'
set_option maxHeartbeats 800000 in
theorem markI_any (A : Option Addr) (n c lo hi : Nat) (f : Nat → Int) (w : World) (h : IFun w lo hi A n f) (hm : n ≤ 1048576) :
    Calls Try.prog 52 #[.slice A n c, .int .i64 1] w (MarkPost lo hi A n w) := by
  have H := Lib.hid h
  clear h
  go_enter Try.func52, Try.ntmps52
  go_wp2
  go_loopw [1, 5] (fun m i wr => ∃ k : Nat, k ≤ n ∧ i = .int .i64 k ∧ m = .int .i64 ((k : Int) + 1) ∧ Hid (IFun wr lo hi A n (fun j => if j < k then (j : Int) + 1 else f j) ∧ Far lo hi w wr)) (fun _ i _ => n - (intOf i).toNat)
  case atStart => exact ⟨0, Nat.zero_le _, rfl, rfl, Lib.hid ⟨H.out.congr (fun k _ => by simp), Far.refl _ _ _⟩⟩
  case round =>
    obtain ⟨k, hk, rfl, rfl, hI⟩ := hrel
    by_cases hlt : k < n
    · obtain ⟨g, rfl, hg1, hg2, hc, hf⟩ := hI.out.1 k hlt
      have HN : Hid (IFun (wr.setCell ⟨g, k, none⟩ (.int .i64 ((k : Int) + 1))) lo hi (some ⟨g, 0, none⟩) n (fun j => if j < k + 1 then (j : Int) + 1 else f j) ∧ Far lo hi w (wr.setCell ⟨g, k, none⟩ (.int .i64 ((k : Int) + 1)))) := by
        refine ⟨(hI.out.1.set (k := k) ((k : Int) + 1)).congr (fun j _ => ?_), hI.out.2.setCell (p := ⟨g, k, none⟩) hg1 hg2 _⟩
        by_cases e : j = k
        · subst e; simp
        · by_cases hj : j < k
          · rw [if_neg e, if_pos hj, if_pos (by omega)]
          · rw [if_neg e, if_neg hj, if_neg (by omega)]
      dsimp only at hc
      rw [if_neg (Nat.lt_irrefl k)] at hc
      go_wp2
      go_roundw
      case rel => exact ⟨k + 1, by omega, by go_num, by go_num, HN⟩
      case measure => simp [intOf]; omega
    · obtain rfl : k = n := by omega
      have HR : Hid (IFun wr lo hi A k (fun j => (j : Int) + 1)) := hI.out.1.congr fun j hj => by rw [if_pos hj]
      go_wp2
      go_ret
      exact ⟨rfl, HR.out, hI.out.2⟩
set_option maxHeartbeats 800000 in
theorem heldI_any (A : Option Addr) (n c lo hi : Nat) (w : World) (h : IFun w lo hi A n (fun j => (j : Int) + 1)) (hm : n ≤ 1048576) :
    Calls Try.prog 53 #[.slice A n c, .int .i64 1] w fun e w' => e = .returned (.int .i64 ((n : Int) + 1)) ∧ w = w' := by
  have H := Lib.hid h
  clear h
  go_enter Try.func53, Try.ntmps53
  go_wp2
  go_loop [1, 5] (fun m i => ∃ k : Nat, k ≤ n ∧ i = .int .i64 k ∧ m = .int .i64 ((k : Int) + 1)) (fun _ i => n - (intOf i).toNat)
  case atStart => exact ⟨0, Nat.zero_le _, rfl, rfl⟩
  case round =>
    obtain ⟨k, hk, rfl, rfl⟩ := hrel
    by_cases hlt : k < n
    · obtain ⟨g, rfl, _, _, hc, _⟩ := H.out k hlt
      go_wp2
      go_round
      case rel => exact ⟨k + 1, by omega, by go_num, by go_num⟩
      case measure => simp [intOf]; omega
    · obtain rfl : k = n := by omega
      go_wp2
      go_ret
      exact ⟨rfl, rfl⟩

/-! ### laws.markSpotS -/
set_option maxHeartbeats 800000 in
theorem markS_any (g n c : Nat) (B k0 : Nat) (l : List (Int × Int)) (w : World) (h : Fill w B g n k0 l) (hm : n ≤ 1048576) :
    Calls Try.prog 51 #[.slice (some ⟨g, 0, none⟩) n c, .int .i64 1] w fun e w' => e = .returned (.int .i64 (2 * (n : Int) + 1)) ∧ Far g (g + 1) w w' := by
  have H := Lib.hid h
  clear h
  go_enter Try.func51, Try.ntmps51
  go_wp2
  go_loopw [1, 5] (fun m i wr => ∃ k : Nat, k ≤ n ∧ i = .int .i64 k ∧ m = .int .i64 (2 * (k : Int) + 1) ∧ Hid (Fill wr B g n 0 l ∧ Far g (g + 1) w wr)) (fun _ i _ => n - (intOf i).toNat)
  case atStart => exact ⟨0, Nat.zero_le _, rfl, rfl, Lib.hid ⟨⟨H.out.low, H.out.lt, H.out.free, fun j hj => by obtain ⟨x, y, a, b, _⟩ := H.out.cells j hj; exact ⟨x, y, a, b, fun h => absurd h (by omega)⟩⟩, Far.refl _ _ _⟩⟩
  case round =>
    obtain ⟨k, hk, rfl, rfl, hI⟩ := hrel
    by_cases hlt : k < n
    · obtain ⟨x, y, hc0, hc1, _⟩ := hI.out.1.cells k hlt
      have hf0 := hI.out.1.free (k * 2)
      have hf1 := hI.out.1.free (k * 2 + 1)
      have HN : Hid (Fill ((wr.setCell ⟨g, k * 2, none⟩ (.int .i64 (2 * (k : Int) + 1))).setCell ⟨g, k * 2 + 1, none⟩ (.int .i64 (2 * (k : Int) + 1 + 1))) B g n 0 l ∧ Far g (g + 1) w ((wr.setCell ⟨g, k * 2, none⟩ (.int .i64 (2 * (k : Int) + 1))).setCell ⟨g, k * 2 + 1, none⟩ (.int .i64 (2 * (k : Int) + 1 + 1)))) := by
        refine ⟨⟨hI.out.1.low, by simpa [World.setCell] using hI.out.1.lt, fun j => (World.frozen?_setCell _ _ _ _).trans ((World.frozen?_setCell _ _ _ _).trans (hI.out.1.free j)), fun j hj => ?_⟩, (hI.out.2.setCell (p := ⟨g, k * 2, none⟩) (Nat.le_refl _) (Nat.lt_succ_self _) _).setCell (p := ⟨g, k * 2 + 1, none⟩) (Nat.le_refl _) (Nat.lt_succ_self _) _⟩
        obtain ⟨a, b, h0, h1, _⟩ := hI.out.1.cells j hj
        by_cases e : j = k
        · subst e
          exact ⟨_, _, (World.cell?_setCell_other _ _ _ _ (by simp)).trans (World.cell?_setCell_same _ _ _ h0), World.cell?_setCell_same _ _ _ ((World.cell?_setCell_other _ _ _ _ (by simp)).trans h1), fun h => absurd h (by omega)⟩
        · exact ⟨a, b, (World.cell?_setCell_other _ _ _ _ (by simp; try omega)).trans ((World.cell?_setCell_other _ _ _ _ (by simp; try omega)).trans h0), (World.cell?_setCell_other _ _ _ _ (by simp; try omega)).trans ((World.cell?_setCell_other _ _ _ _ (by simp; try omega)).trans h1), fun h => absurd h (by omega)⟩
      go_wp2
      go_roundw
      case rel => exact ⟨k + 1, by omega, by go_num, by go_num, HN⟩
      case measure => simp [intOf]; omega
    · obtain rfl : k = n := by omega
      go_wp2
      go_ret
      exact ⟨rfl, hI.out.2⟩
end Go.Proofs.Ytjnimedbjmihaaa
