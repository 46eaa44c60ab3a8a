/-
  What the laws do with soundings: contracts of laws.toSpot, eqSpot, szSoundingS, toSounding, toSoundingS, eqSounding, eqSoundingS over this translation. Conditions: stated at each theorem.
-/
import Derived.Test.YtklbefdpfhidkaaDoorSk
import Derived.Test.YtklbefdpfhidkaaDoorQo
namespace Go.Proofs.YtklbefdpfhidkaaDoor
open Go.RowKit

theorem toSpotS_any (x y : Int) (w : World) :
    Calls Tryd.prog 51 #[.agg #[.int .i64 x, .int .i64 y]] w fun e w' => e = .returned (.agg #[.int .i64 x, .int .i64 y]) ∧ Below w.heap.size w w' := by
  go_enter Tryd.func51, Tryd.ntmps51
  go_wp2
  refine bodyPost_ret (v := .agg #[.int .i64 x, .int .i64 y]) (by simp [results, Tryd.results51, go_sem]) rfl ⟨rfl, ?_⟩
  repeat (first | exact Below.refl _ _ | refine Below.setCell ?_ (by simp; try omega) _ | refine Below.alloc ?_ (by simp; try omega) _)
theorem eqSpotS_same (x y : Int) (w : World) :
    Calls Tryd.prog 52 #[.agg #[.int .i64 x, .int .i64 y], .agg #[.int .i64 x, .int .i64 y]] w fun e w' => e = .returned (.bool true) ∧ Below w.heap.size w w' := by
  go_enter Tryd.func52, Tryd.ntmps52
  go_wp2
  go_ret
  refine ⟨rfl, ?_⟩
  repeat (first | exact Below.refl _ _ | refine Below.alloc ?_ (by simp; try omega) _)
/-! ### laws.szSoundingS -/
/-- Block g holds n soundings, the first k of which are those of L; all may be written. -/
structure FillS (w : World) (B g n k : Nat) (L : List SD) : Prop where
  low : B ≤ g
  lt : g < w.heap.size
  free : ∀ j, w.frozen? ⟨g, j, none⟩ = false
  cells : ∀ j, j < n * 5 → ∃ u, w.cell? ⟨g, j, none⟩ = some u
  done : ∀ j, j < k → ∃ v, L[j]? = some v ∧ At5 w g (j * 5) v
theorem FillS.on {w w' : World} {B B' g n k : Nat} {L : List SD} (h : FillS w B g n k L) (hb : Below B' w w') (hg : g < B') (hs : w.heap.size ≤ w'.heap.size) : FillS w' B g n k L :=
  ⟨h.low, Nat.lt_of_lt_of_le h.lt hs, fun j => (hb.frozen (p := ⟨g, j, none⟩) hg).trans (h.free j), fun j hj => by
    obtain ⟨u, hu⟩ := h.cells j hj
    exact ⟨u, (hb.cell (p := ⟨g, j, none⟩) hg).trans hu⟩, fun j hj => by
    obtain ⟨v, hv, h5⟩ := h.done j hj
    exact ⟨v, hv, h5.on hb hg⟩⟩
theorem FillS.next {w w' : World} {B g n k : Nat} {L : List SD} (h : FillS w B g n k L) (hb : Below w.heap.size w w') : FillS w' B g n k L := h.on hb h.lt hb.size
theorem FillS.wide {w : World} {B B' g n k : Nat} {L : List SD} (h : FillS w B g n k L) (hB : B' ≤ B) : FillS w B' g n k L := ⟨Nat.le_trans hB h.low, h.lt, h.free, h.cells, h.done⟩
theorem FillS.bare {w : World} {B g n k : Nat} {L : List SD} (h : FillS w B g n k L) (L' : List SD) : FillS w B g n 0 L' := ⟨h.low, h.lt, h.free, h.cells, fun j hj => absurd hj (by omega)⟩
theorem at5_other {w w' : World} {b o : Nat} {v : SD} (h : At5 w b o v) (he : ∀ q, o ≤ q → q < o + 5 → w'.cell? ⟨b, q, none⟩ = w.cell? ⟨b, q, none⟩) : At5 w' b o v := by
  obtain ⟨h0, h1, h2, h3, h4⟩ := h
  exact ⟨(he _ (by omega) (by omega)).trans h0, (he _ (by omega) (by omega)).trans h1, (he _ (by omega) (by omega)).trans h2, (he _ (by omega) (by omega)).trans h3, (he _ (by omega) (by omega)).trans h4⟩
theorem FillS.more {w : World} {B g n k : Nat} {L : List SD} (h : FillS w B g n k L) {v : SD} (hl : L[k]? = some v) (h5 : At5 w g (k * 5) v) : FillS w B g n (k + 1) L :=
  ⟨h.low, h.lt, h.free, h.cells, fun j hj => by
    rcases Nat.lt_or_ge j k with h1 | h1
    · exact h.done j h1
    · obtain rfl : j = k := by omega
      exact ⟨v, hl, h5⟩⟩
theorem FillS.put {w : World} {B g n k : Nat} {L : List SD} (h : FillS w B g n k L) (i : Nat) (hi : k * 5 ≤ i) (u : Value) : FillS (w.setCell ⟨g, i, none⟩ u) B g n k L := by
  refine ⟨h.low, by simpa [World.setCell] using h.lt, fun j => (World.frozen?_setCell _ _ _ _).trans (h.free j), fun j hj => ?_, fun j hj => ?_⟩
  · obtain ⟨u', hu'⟩ := h.cells j hj
    by_cases e : j = i
    · subst e; exact ⟨u, World.cell?_setCell_same _ _ _ hu'⟩
    · exact ⟨u', (World.cell?_setCell_other _ _ _ _ (fun h => by injection h with _ h2; exact e h2.symm)).trans hu'⟩
  · obtain ⟨v, hv, h5⟩ := h.done j hj
    refine ⟨v, hv, at5_other h5 fun q h1 h2 => World.cell?_setCell_other _ _ _ _ fun h => ?_⟩
    injection h with _ h3
    omega
theorem FillS.puts {B g n k : Nat} {L : List SD} (vs : List Value) : ∀ {w : World} (_ : FillS w B g n k L) (i : Nat) (_ : k * 5 ≤ i), FillS (setL w g i vs) B g n k L := by
  induction vs with
  | nil => intro w h i hi; exact h
  | cons v vs ih => intro w h i hi; exact ih (h.put i hi v) (i + 1) (by omega)
theorem FillS.lay {w : World} {B g n k : Nat} {L : List SD} (h : FillS w B g n k L) (hk : k < n) {v : SD} (hl : L[k]? = some v) :
    FillS (setL w g (k * 5) [.int .i64 v.id, .int .i64 v.x, .int .i64 v.y, .int .i64 v.dep, .int .i64 v.dbt]) B g n (k + 1) L := by
  have hat := setL_at [.int .i64 v.id, .int .i64 v.x, .int .i64 v.y, .int .i64 v.dep, .int .i64 v.dbt] w g (k * 5) (fun i hi => h.cells _ (by simp only [List.length_cons, List.length_nil] at hi; omega))
  exact (h.puts [.int .i64 v.id, .int .i64 v.x, .int .i64 v.y, .int .i64 v.dep, .int .i64 v.dbt] (k * 5) (Nat.le_refl _)).more hl ⟨hat 0 _ rfl, hat 1 _ rfl, hat 2 _ rfl, hat 3 _ rfl, hat 4 _ rfl⟩
theorem infoSound : (Tryd.prog.info? 27).map (fun i => (i.zero, i.size, i.bytes)) = some (some (.agg #[.int .i64 0, .int .i64 0, .int .i64 0, .int .i64 0, .int .i64 0]), 5, 40) := by kernel_rfl
theorem fillS_own {w1 : World} {B g n c : Nat} {cs : List Value} {L : List SD} (h : w1.ownsRow B 27 5 (.slice (some ⟨g, 0, none⟩) n c) n cs) : FillS w1 B g n 0 L :=
  ⟨(h.lt g rfl).1, (h.lt g rfl).2, fun j => h.frozenAt j, fun j hj => by
    rw [h.cellAt j (by omega)]
    have h1 := h.1
    exact ⟨_, List.getElem?_eq_getElem (by omega)⟩, fun j hj => absurd hj (by omega)⟩
theorem sds_of_fill {w : World} {B g n : Nat} {L : List SD} (h : FillS w B g n n L) (hn : L.length = n) : Sds w w.heap.size (some ⟨g, 0, none⟩) n L :=
  ⟨hn, fun k hk => by
    obtain ⟨v, hv, h5⟩ := h.done k hk
    exact ⟨g, 0, v, rfl, h.lt, hv, by rw [Nat.zero_add]; exact h5⟩⟩
/-! ### laws.toSounding, laws.toSoundingS -/
set_option maxHeartbeats 1600000 in
theorem toSound_any (v : SD) (w : World) :
    Calls Tryd.prog 22 #[.agg #[.int .i64 v.id, .int .i64 v.x, .int .i64 v.y, .int .i64 v.dep, .int .i64 v.dbt]] w fun e w' => e = .returned (.agg #[.int .i64 v.id, .int .i64 v.x, .int .i64 v.y, .int .i64 v.dep, .int .i64 v.dbt]) ∧ Below w.heap.size w w' := by
  go_enter Tryd.func22, Tryd.ntmps22
  go_wp2_with fail
  refine (toSpotS_any _ _ _).mono ?_
  rintro z w1 ⟨rfl, hb⟩
  have HX := Lib.hid (box3 hb)
  have HB1 := Lib.hid HX.out.1
  have HA1 := Lib.hid HX.out.2.1
  have HR1 := Lib.hid HX.out.2.2.1
  have HO1 := Lib.hid HX.out.2.2.2
  clear hb
  have a3 := HA1.out.at_ 3 _ rfl
  have a4 := HA1.out.at_ 4 _ rfl
  have r0 := HR1.out.at_ 0 _ rfl
  have r1 := HR1.out.at_ 1 _ rfl
  have r2 := HR1.out.at_ 2 _ rfl
  have r3 := HR1.out.at_ 3 _ rfl
  have r4 := HR1.out.at_ 4 _ rfl
  have o0 := HO1.out.at_ 0 _ rfl
  have o1 := HO1.out.at_ 1 _ rfl
  have o2 := HO1.out.at_ 2 _ rfl
  have o3 := HO1.out.at_ 3 _ rfl
  have o4 := HO1.out.at_ 4 _ rfl
  have fo1 := HO1.out.free 1
  have fo2 := HO1.out.free 2
  have fo3 := HO1.out.free 3
  have fo4 := HO1.out.free 4
  have fr0 := HR1.out.free 0
  have fr1 := HR1.out.free 1
  have fr2 := HR1.out.free 2
  have fr3 := HR1.out.free 3
  have fr4 := HR1.out.free 4
  go_wp2_with fail
  refine bodyPost_ret (v := .agg #[.int .i64 v.id, .int .i64 v.x, .int .i64 v.y, .int .i64 v.dep, .int .i64 v.dbt]) (by simp [results, Tryd.results22, go_sem, r0, r1, r2, r3, r4]) rfl ⟨rfl, ?_⟩
  repeat (first | with_reducible exact HB1.out | refine Below.setCell ?_ (by simp; try omega) _ | refine Below.alloc ?_ (by simp; try omega) _)
def CopySs (L : List SD) (w : World) (e : Ending) (w' : World) : Prop :=
  ∃ g, e = .returned (.slice (some ⟨g, 0, none⟩) L.length L.length) ∧ FillS w' w.heap.size g L.length L.length L ∧ Below w.heap.size w w'
/-! ### laws.eqSounding, laws.eqSoundingS -/
set_option maxHeartbeats 800000 in
theorem eqS_same (v : SD) (w : World) :
    Calls Tryd.prog 23 #[.agg #[.int .i64 v.id, .int .i64 v.x, .int .i64 v.y, .int .i64 v.dep, .int .i64 v.dbt], .agg #[.int .i64 v.id, .int .i64 v.x, .int .i64 v.y, .int .i64 v.dep, .int .i64 v.dbt]] w fun e w' => e = .returned (.bool true) ∧ Below w.heap.size w w' := by
  go_enter Tryd.func23, Tryd.ntmps23
  go_wp2_with fail
  refine (eqSpotS_same _ _ _).mono ?_
  rintro z w1 ⟨rfl, hb⟩
  have HX := Lib.hid (box2 hb)
  clear hb
  have a3 := HX.out.2.1.at_ 3 _ rfl
  have a4 := HX.out.2.1.at_ 4 _ rfl
  have b3 := HX.out.2.2.at_ 3 _ rfl
  have b4 := HX.out.2.2.at_ 4 _ rfl
  go_wp2_with fail
  go_ret
  exact ⟨rfl, HX.out.1⟩
end Go.Proofs.YtklbefdpfhidkaaDoor
