/-
  How an argument that is a row of numbers reads, and its copy: contract of laws.toIntS over this translation. Conditions: stated at each theorem.
-/
import Derived.Test.YtjekmmekkfmplaaOg
import Derived.Test.YtjekmmekkfmplaaTc
import Derived.OpenShut
import Derived.Deep.Slices
namespace Go.Proofs.Ytjekmmekkfmplaa
open Go.RowKit
set_option linter.unusedVariables false

/-- The slice value with address A and n elements reads as the numbers P; its block lies below B. -/
def ISeq (w : World) (B : Nat) (A : Option Addr) (n : Nat) (P : List Int) : Prop :=
  P.length = n ∧ ∀ k, k < n → ∃ b o : Nat, A = some ⟨b, o, none⟩ ∧ b < B ∧ w.cell? ⟨b, o + k, none⟩ = some (.int .i64 (P.getD k 0))
theorem iseq_at {w W : World} {n : Nat} {A : Option Addr} {P : List Int} (h : ISeq w w.heap.size A n P) (hb : Below w.heap.size w W) : ISeq W W.heap.size A n P :=
  ⟨h.1, fun k hk => by
    obtain ⟨b, o, hA, hlt, hc⟩ := h.2 k hk
    exact ⟨b, o, hA, Nat.lt_of_lt_of_le hlt hb.size, (hb.cell (p := ⟨b, _, none⟩) hlt).trans hc⟩⟩
open Go.Joins Go.ChangeShapes Go.WideShapes Go.ChangeAt Go.Deep in
theorem open_intsJ {H : Type} {enc : TypeId × Value → H} {w : World} {A : Option Addr} {n c : Nat} {d : DataW H} {p : List MemPlace} (h : DataW.Trod enc Try.prog w 0 (fun _ => true) true 24 (.slice A n c) d p) :
    n ≤ maxLen ∧ ∃ P, ISeq w w.heap.size A n P := by
  obtain ⟨fuel, hf⟩ := h
  rcases open_ints Try.underlying24 Try.underlying3 (by kernel_rfl) hf with ⟨hcs, _⟩ | ⟨x, l, c', zs, hcs, _, hl, hm, hz, _, hcell, _⟩
  · simp [Value.cells] at hcs
    obtain ⟨rfl, rfl, rfl⟩ := hcs
    exact ⟨by unfold maxLen; omega, [], rfl, fun j hj => absurd hj (by omega)⟩
  · simp [Value.cells] at hcs
    obtain ⟨rfl, rfl, rfl⟩ := hcs
    have hz' : zs.length = c := by simpa using hz
    obtain ⟨b, o, spot⟩ := x
    rcases Nat.eq_zero_or_pos n with h0 | hpos
    · subst h0
      exact ⟨by omega, [], rfl, fun k hk => absurd hk (by omega)⟩
    have hspot : spot = none := by
      have := World.cell?_spot (hcell 0 (by omega))
      simpa [Addr.add] using this
    subst hspot
    refine ⟨by omega, zs.take n, by simp; omega, fun k hk => ?_⟩
    have h1 := hcell k (by omega)
    rw [add_none] at h1
    refine ⟨b, o, rfl, World.block_lt_of_cell? w _ h1, h1.trans ?_⟩
    rw [List.getD_eq_getElem?_getD, List.getD_eq_getElem?_getD, List.getElem?_take, if_pos hk]
/-- Block g holds n numbers, the first k of which are those of P; all may be written. -/
structure FillI (w : World) (B g n k : Nat) (P : List Int) : Prop where
  low : B ≤ g
  lt : g < w.heap.size
  free : ∀ j, w.frozen? ⟨g, j, none⟩ = false
  cells : ∀ j, j < n → ∃ u, w.cell? ⟨g, j, none⟩ = some u
  done : ∀ j, j < k → w.cell? ⟨g, j, none⟩ = some (.int .i64 (P.getD j 0))
theorem FillI.put {w : World} {B g n k : Nat} {P : List Int} (h : FillI w B g n k P) (hk : k < n) : FillI (w.setCell ⟨g, k, none⟩ (.int .i64 (P.getD k 0))) B g n (k + 1) P := by
  obtain ⟨u0, hu0⟩ := h.cells k hk
  refine ⟨h.low, by simpa [World.setCell] using h.lt, fun j => (World.frozen?_setCell _ _ _ _).trans (h.free j), fun j hj => ?_, fun j hj => ?_⟩
  · obtain ⟨u', hu'⟩ := h.cells j hj
    by_cases e : j = k
    · subst e; exact ⟨_, World.cell?_setCell_same _ _ _ hu'⟩
    · exact ⟨u', (World.cell?_setCell_other _ _ _ _ (fun h => by injection h with _ h2; exact e h2.symm)).trans hu'⟩
  · by_cases e : j = k
    · subst e; exact World.cell?_setCell_same _ _ _ hu0
    · exact (World.cell?_setCell_other _ _ _ _ (fun h => by injection h with _ h2; exact e h2.symm)).trans (h.done j (by omega))
theorem fillI_own {w1 : World} {B g n c : Nat} {cs : List Value} {P : List Int} (h : w1.ownsRow B 3 1 (.slice (some ⟨g, 0, none⟩) n c) n cs) : FillI w1 B g n 0 P :=
  ⟨(h.lt g rfl).1, (h.lt g rfl).2, fun j => h.frozenAt j, fun j hj => by
    rw [h.cellAt j (by omega)]
    have h1 := h.1
    exact ⟨_, List.getElem?_eq_getElem (by omega)⟩, fun j hj => absurd hj (by omega)⟩
theorem ifun_fillI {w : World} {B g n : Nat} {P : List Int} (h : FillI w B g n n P) : IFun w B w.heap.size (some ⟨g, 0, none⟩) n (fun j => P.getD j 0) := fun k hk => ⟨g, rfl, h.low, h.lt, h.done k hk, h.free k⟩
/-- A copy of the numbers P in a block of the call's own. -/
def CopyI (P : List Int) (w : World) (e : Ending) (w' : World) : Prop :=
  ∃ g, e = .returned (.slice (some ⟨g, 0, none⟩) P.length P.length) ∧ IFun w' w.heap.size w'.heap.size (some ⟨g, 0, none⟩) P.length (fun j => P.getD j 0) ∧ Below w.heap.size w w'
set_option maxHeartbeats 1600000 in
theorem copyI_any (A : Option Addr) (n c : Nat) (P : List Int) (w : World) (hs : ISeq w w.heap.size A n P) (hsz : n ≤ 1048576) :
    Calls Try.prog 48 #[.slice A n c] w (CopyI P w) := by
  obtain ⟨i0, hi, hz0, hz1, hz2⟩ := info_parts info3
  obtain rfl := hs.1
  have HS := Lib.hid hs
  clear hs
  go_enter Try.func48, Try.ntmps48
  go_wp2_with (at_make; refine wpList_make_full _ rfl _ _ 24 rfl w.heap.size 3 i0 (.int .i64 0) 1 Try.underlying24 hi hz0 hz1 .i64 .i64 _ _ P.length rfl rfl rfl rfl (by rw [hz2]; omega) (by unfold maxLen; omega) (Nat.le_refl _) ?_; intro w1 hown hgrow)
  have HB0 := Lib.hid ((Below.refl w.heap.size w).grown hgrow (Nat.le_refl _) (fun k e => by cases e))
  have HF0 : Hid (FillI w1 w.heap.size w.heap.size P.length 0 P) := fillI_own hown
  clear hown hgrow
  go_loopw [4] (fun i wr => ∃ k : Nat, k ≤ P.length ∧ i = .int .i64 k ∧ Hid (FillI wr w.heap.size w.heap.size P.length k P) ∧ Hid (Below w.heap.size w wr)) (fun i _ => P.length - (intOf i).toNat)
  case atStart => exact ⟨0, Nat.zero_le _, rfl, HF0, HB0⟩
  case round =>
    obtain ⟨k, hk, rfl, hF, hB⟩ := hrel
    by_cases hlt : k < P.length
    · obtain ⟨b, o, rfl, hb, c0⟩ := (iseq_at HS.out hB.out).2 k hlt
      obtain ⟨u0, h0⟩ := hF.out.cells k hlt
      have f0 := hF.out.free k
      have HF2 := Lib.hid (hF.out.put hlt)
      have HB2 := Lib.hid (hB.out.setCell (p := ⟨w.heap.size, k, none⟩) (Nat.le_refl _) (.int .i64 (P.getD k 0)))
      obtain ⟨x, hx⟩ : ∃ x, P.getD k 0 = x := ⟨_, rfl⟩
      rw [hx] at c0 HF2 HB2
      clear hx hb
      go_wp2_with fail
      go_roundw
      case rel => exact ⟨k + 1, by omega, by go_num, HF2, HB2⟩
      case measure => simp [intOf]; omega
    · obtain rfl : k = P.length := by omega
      have HC : Hid (CopyI P w (.returned (.slice (some ⟨w.heap.size, 0, none⟩) P.length P.length)) wr) := Lib.hid ⟨_, rfl, ifun_fillI hF.out, hB.out⟩
      go_wp2_with fail
      go_ret
      exact HC
end Go.Proofs.Ytjekmmekkfmplaa
