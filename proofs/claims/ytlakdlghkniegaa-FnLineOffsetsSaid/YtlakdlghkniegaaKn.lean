/-
  Inserting one number into a row of the call's own: contract of slices.Insert over this translation. Conditions: stated at each theorem.
-/
import Derived.Test.YtlakdlghkniegaaBase
import Derived.Test.YtlakdlghkniegaaTc
import Derived.Test.YtlakdlghkniegaaShelfK
namespace Go.Proofs.Ytlakdlghkniegaa
open Go.RowKit
set_option linter.unusedVariables false

theorem heap_setC {w : World} {b i : Nat} {cs : Array Value} {T : TypeId} {fr : Nat × Nat} (hb : w.heap[b]? = some (.cells cs T fr)) (v : Value) :
    (w.setCell ⟨b, i, none⟩ v).heap[b]? = some (.cells (cs.setIfInBounds i v) T fr) := by
  simp [World.setCell, Array.getElem?_modify, hb]
theorem heap_newK (w : World) (cs : Array Value) (T : TypeId) : (w.alloc (.cells cs T)).heap[w.heap.size]? = some (.cells cs T (0, 0)) := by
  show (w.heap.push _)[w.heap.size]? = _
  simp
/-- The list with vs laid over it from its place o on. -/
def setsL (l : List Value) : Nat → List Value → List Value
  | _, [] => l
  | o, v :: r => setsL (l.set o v) (o + 1) r
theorem setsL_len : ∀ (vs l : List Value) (o : Nat), (setsL l o vs).length = l.length
  | [], _, _ => rfl
  | v :: r, l, o => by rw [setsL, setsL_len r]; simp
theorem setsL_is : ∀ (vs l : List Value) (o : Nat), o + vs.length ≤ l.length → setsL l o vs = l.take o ++ vs ++ l.drop (o + vs.length)
  | [], l, o, h => by simp [setsL]
  | v :: r, l, o, h => by
    simp only [List.length_cons] at h
    rw [setsL, setsL_is r (l.set o v) (o + 1) (by simp; omega)]
    have h1 : (l.set o v).take (o + 1) = l.take o ++ [v] := by
      have h9 : o < (l.set o v).length := by simp; omega
      rw [List.take_succ_eq_append_getElem h9, List.take_set_of_le (Nat.le_refl o)]
      simp
    have h2 : (l.set o v).drop (o + 1 + r.length) = l.drop (o + (v :: r).length) := by
      rw [List.drop_set_of_lt (by omega)]
      simp only [List.length_cons]
      congr 1
      omega
    rw [h1, h2]
    simp
theorem own_setCell {w : World} {base e n g cap k : Nat} {xs : List Value} (h : w.ownsRow base e 1 (.slice (some ⟨g, 0, none⟩) n cap) n xs) (hk : k < n) (u : Value) : (w.setCell ⟨g, k, none⟩ u).ownsRow base e 1 (.slice (some ⟨g, 0, none⟩) n cap) n (xs.set k u) := by
  obtain ⟨hl, ⟨hv, _⟩ | ⟨g', cap', cur, hv, hb, hg, hn, hc, hs, ht⟩⟩ := h
  · cases hv
  · injection hv with h1 h2 h3
    injection h1 with h1
    injection h1 with h1 _ _
    subst h1; subst h3
    refine ⟨by simpa using hl, .inr ⟨g, cap, cur.setIfInBounds k u, rfl, hb, heap_setC hg u, hn, hc, by simpa using hs, ?_⟩⟩
    rw [← ht]
    simp only [Array.toList_setIfInBounds, Nat.mul_one]
    rw [List.take_set]
theorem own_setCells {base e n g cap : Nat} : ∀ (vs : List Value) {w : World} {xs : List Value} {o : Nat} (_ : w.ownsRow base e 1 (.slice (some ⟨g, 0, none⟩) n cap) n xs) (_ : o + vs.length ≤ n), (w.setCells g o vs).ownsRow base e 1 (.slice (some ⟨g, 0, none⟩) n cap) n (setsL xs o vs)
  | [], _, _, _, h, _ => h
  | v :: r, w, xs, o, h, hk => by
    simp only [List.length_cons] at hk
    rw [World.setCells, setsL]
    exact own_setCells r (own_setCell h (by omega) v) (by omega)
theorem own_room {w : World} {base e n g cap : Nat} {xs : List Value} (h : w.ownsRow base e 1 (.slice (some ⟨g, 0, none⟩) n cap) n xs) (hc : n + 1 ≤ cap) : ∃ y, w.ownsRow base e 1 (.slice (some ⟨g, 0, none⟩) (n + 1) cap) (n + 1) (xs ++ [y]) := by
  obtain ⟨hl, ⟨hv, _⟩ | ⟨g', cap', cur, hv, hb, hg, hn, hcm, hs, ht⟩⟩ := h
  · cases hv
  · injection hv with h1 h2 h3
    injection h1 with h1
    injection h1 with h1 _ _
    subst h1; subst h3
    have hlt : n < cur.toList.length := by simp; omega
    refine ⟨cur.toList[n], by simp; omega, .inr ⟨g, cap, cur, rfl, hb, hg, hc, hcm, hs, ?_⟩⟩
    rw [← ht]
    simp only [Nat.mul_one]
    rw [List.take_succ_eq_append_getElem hlt]
theorem own_parts {w : World} {base e n g cap : Nat} {xs : List Value} (h : w.ownsRow base e 1 (.slice (some ⟨g, 0, none⟩) n cap) n xs) : xs.length = n ∧ base ≤ g ∧ n ≤ cap ∧ cap ≤ maxLen ∧ g < w.heap.size ∧ w.shape? g = some (e, cap) ∧ (∀ j, w.frozen? ⟨g, j, none⟩ = false) ∧ (∀ j, j < cap → (w.cell? ⟨g, j, none⟩).isSome = true) ∧ ∀ j v, xs[j]? = some v → w.cell? ⟨g, j, none⟩ = some v := by
  obtain ⟨hl, ⟨hv, _⟩ | ⟨g', cap', cur, hv, hb, hg, hn, hcm, hs, ht⟩⟩ := h
  · cases hv
  · injection hv with h1 h2 h3
    injection h1 with h1
    injection h1 with h1 _ _
    subst h1; subst h3
    have hsz : g < w.heap.size := by
      rcases Nat.lt_or_ge g w.heap.size with a | a
      · exact a
      · rw [Array.getElem?_eq_none a] at hg; cases hg
    refine ⟨by omega, hb, hn, hcm, hsz, by simp [World.shape?, hg, hs], fun j => ?_, fun j hj => ?_, fun j v hx => ?_⟩
    · simp [World.frozen?, hg]
    · simp [World.cell?, hg, hs, hj]
    · have hj : j < n := by have := (List.getElem?_eq_some_iff.1 hx).1; omega
      rw [← ht, Nat.mul_one, List.getElem?_take, if_pos hj] at hx
      simp only [World.cell?, hg]
      simpa using hx
theorem drew_own {w : World} {base e z n : Nat} {v : Value} {xs : List Value} (h : w.ownsRow base e z v n xs) : w.drew.ownsRow base e z v n xs := h
theorem grown_setCells {base : Nat} {g : Nat} (hg : base ≤ g) : ∀ (vs : List Value) (o : Nat) {w0 w : World} (_ : Below base w0 w), Below base w0 (w.setCells g o vs)
  | [], _, _, _, h => h
  | v :: r, o, w0, w, h => by
    rw [World.setCells]
    exact grown_setCells hg r (o + 1) (h.setCell (p := ⟨g, o, none⟩) hg v)
theorem grownBy_setCells (g : Nat) : ∀ (vs : List Value) (o : Nat) {w0 w : World} (_ : w0.grownBy w (some g)), w0.grownBy (w.setCells g o vs) (some g)
  | [], _, _, _, h => h
  | v :: r, o, w0, w, h => by
    rw [World.setCells]
    exact grownBy_setCells g r (o + 1) ⟨h.os, h.tape, h.output, by simpa [World.setCell] using h.size, fun i hi hne => (Below.heap_setCell w ⟨g, o, none⟩ v i (fun e => hne (by rw [e]))).trans (h.block i hi hne)⟩
theorem ivs_one (xs : List Int) : ∀ v ∈ ivs xs, v.oneCell' = true := by
  intro v hv
  simp only [ivs, List.mem_map] at hv
  obtain ⟨x, _, rfl⟩ := hv
  rfl
/-- A number inserted into a row of the call's own, ahead of one of its elements. -/
theorem insert_own (base : Nat) (g n cap i vb : Nat) (ls : List Int) (x : Int) (w : World) (h : w.ownsRow base 3 1 (.slice (some ⟨g, 0, none⟩) n cap) n (ivs ls)) (hi : i < n) (hn : n ≤ 1000) (hvb : vb ≠ g) (hx : w.cell? ⟨vb, 0, none⟩ = some (.int .i64 x)) (hsh : w.shape? vb = some (3, 1)) (hfz : ∀ j, w.frozen? ⟨vb, j, none⟩ = false) (hbs : base ≤ w.heap.size) :
    Calls Try.prog 94 #[.slice (some ⟨g, 0, none⟩) n cap, .int .i64 i, .slice (some ⟨vb, 0, none⟩) 1 1] w fun e w' =>
      ∃ g' cap', e = .returned (.slice (some ⟨g', 0, none⟩) (n + 1) cap') ∧ w'.ownsRow base 3 1 (.slice (some ⟨g', 0, none⟩) (n + 1) cap') (n + 1) (ivs (ls.take i ++ x :: ls.drop i)) ∧ w.grownBy w' (some g) := by
  obtain ⟨hl, hb, hnc, hcm, hgs, hshg, hfg, hsg, hcg⟩ := own_parts h
  have hmx : maxLen ≤ 9223372036854775807 := by unfold maxLen; omega
  have hll : ls.length = n := by simpa [ivs] using hl
  have hvs : ∀ j v, [Value.int .i64 x][j]? = some v → w.cell? ⟨vb, 0 + j, none⟩ = some v := fun j v hj => by
    match j, hj with
    | 0, hj => obtain rfl : Value.int .i64 x = v := by simpa using hj
               exact hx
  have hdrop : ((ivs ls).drop i).length = n - i := by rw [List.length_drop, hl]
  have hfin : ∀ (ys : List Value), ys.length = n + 1 → ys.take i = (ivs ls).take i → setsL (setsL ys (i + 1) ((ivs ls).drop i)) i [.int .i64 x] = ivs (ls.take i ++ x :: ls.drop i) := fun ys hy hyt => by
    rw [setsL_is ((ivs ls).drop i) ys (i + 1) (by rw [hdrop, hy]; omega), setsL_is [.int .i64 x] _ i (by simp [hy]; omega)]
    have e1 : ys.drop (i + 1 + ((ivs ls).drop i).length) = [] := List.drop_of_length_le (by rw [hdrop, hy]; omega)
    rw [e1, List.append_nil]
    have e2 : (ys.take (i + 1) ++ (ivs ls).drop i).take i = (ivs ls).take i := by
      rw [List.take_append_of_le_length (by simp [hy]; omega), List.take_take, Nat.min_eq_left (by omega), hyt]
    have e3 : (ys.take (i + 1) ++ (ivs ls).drop i).drop (i + [Value.int IntKind.i64 x].length) = (ivs ls).drop i := by
      rw [List.drop_left' (by simp [hy]; omega)]
    rw [e2, e3]
    simp [ivs, List.map_take, List.map_drop]
  by_cases hroom : n + 1 ≤ cap
  · have L := Try.slices_Insert_int_shift g 0 n cap i vb 0 1 1 (ivs ls) [.int .i64 x] w hi (by omega) hroom (by omega) hvb hl rfl (fun j v hj => by rw [Nat.zero_add]; exact hcg j v hj) (fun j hj => by rw [Nat.zero_add]; exact hsg j (by omega)) (fun j hj => by rw [Nat.zero_add]; exact hfg j) hvs (ivs_one ls) (by simp [Value.oneCell']) 3 3 1 cap hsh hshg (by omega) (hfz 0) (hfz 1)
    refine L.mono ?_
    rintro e w' ⟨rfl, rfl⟩
    obtain ⟨y, hy⟩ := own_room h hroom
    have h1 := own_setCells ((ivs ls).drop i) (drew_own hy) (o := i + 1) (by rw [hdrop]; omega)
    have h2 := own_setCells [.int .i64 x] h1 (o := i) (by simp; omega)
    rw [hfin _ (by simp [hl]) (by rw [List.take_append_of_le_length (by omega)])] at h2
    refine ⟨g, cap, rfl, by simpa using h2, ?_⟩
    exact grownBy_setCells g _ _ (grownBy_setCells g _ _ ⟨rfl, rfl, rfl, Nat.le_refl _, fun _ _ _ => rfl⟩)
  · obtain rfl : n = cap := by omega
    have L := Try.slices_Insert_int_grow g 0 n n i vb 0 1 1 (ivs ls) [.int .i64 x] w hi (by omega) (Nat.le_refl _) (by omega) (by omega) hl rfl (fun j v hj => by rw [Nat.zero_add]; exact hcg j v hj) hvs (ivs_one ls) (by simp [Value.oneCell'])
    refine L.mono ?_
    rintro e w' ⟨rfl, rfl⟩
    obtain ⟨G, hG⟩ : ∃ G, G = grownCap w (n + 1) n 3 := ⟨_, rfl⟩
    have hGn : n + 1 ≤ G := by rw [hG]; exact grownCap_ge w _ _ _
    have hGm : G ≤ maxLen := by rw [hG]; exact grownCap_le_maxLen w (n + 1) n 3 (by unfold maxLen; omega)
    obtain ⟨ROW, hROW⟩ : ∃ ROW : Array Value, ROW = ((ivs ls).take i).toArray ++ Builtin.zeroCells (Value.int .i64 0).cells (n + 1 - i) ++ Builtin.zeroCells (Value.int .i64 0).cells (G - (n + 1)) := ⟨_, rfl⟩
    rw [← hG, ← hROW]
    have hRs : ROW.size = G := by
      rw [hROW]
      simp [Builtin.zeroCells, Value.cells, hl]
      omega
    have ho : (w.alloc (.cells ROW 3)).ownsRow base 3 1 (.slice (some ⟨w.heap.size, 0, none⟩) (n + 1) G) (n + 1) (ROW.toList.take (n + 1)) :=
      ⟨by simp [hRs]; omega, .inr ⟨w.heap.size, G, ROW, rfl, hbs, heap_newK _ _ _, hGn, hGm, by omega, by simp⟩⟩
    have h1 := own_setCells [.int .i64 x] (drew_own ho) (o := i) (by simp; omega)
    have h2 := own_setCells ((ivs ls).drop i) (drew_own h1) (o := i + 1) (by rw [hdrop]; omega)
    have e : setsL (setsL (ROW.toList.take (n + 1)) i [.int .i64 x]) (i + 1) ((ivs ls).drop i) = ivs (ls.take i ++ x :: ls.drop i) := by
      have hy : (ROW.toList.take (n + 1)).length = n + 1 := by simp [hRs]; omega
      have hyt : (ROW.toList.take (n + 1)).take i = (ivs ls).take i := by
        rw [List.take_take, Nat.min_eq_left (by omega), hROW]
        simp only [Array.toList_append, List.append_assoc]
        rw [List.take_append_of_le_length (by simp [hl]; omega)]
        show List.take i (List.take i (ivs ls)) = _
        rw [List.take_take, Nat.min_self]
      obtain ⟨ys, hys⟩ : ∃ ys, ys = ROW.toList.take (n + 1) := ⟨_, rfl⟩
      rw [← hys] at hy hyt ⊢
      rw [setsL_is [.int .i64 x] ys i (by simp [hy]; omega), setsL_is ((ivs ls).drop i) _ (i + 1) (by simp [hdrop, hy]; omega)]
      have e0 : (ys.take i ++ [Value.int .i64 x] ++ ys.drop (i + [Value.int IntKind.i64 x].length)).take (i + 1) = (ivs ls).take i ++ [.int .i64 x] := by
        rw [hyt, List.take_left' (by simp [hl]; omega)]
      have e1 : (ys.take i ++ [Value.int .i64 x] ++ ys.drop (i + [Value.int IntKind.i64 x].length)).drop (i + 1 + ((ivs ls).drop i).length) = [] := List.drop_of_length_le (by simp [hdrop, hy]; omega)
      rw [e0, e1, List.append_nil]
      simp [ivs, List.map_take, List.map_drop]
    rw [e] at h2
    refine ⟨w.heap.size, G, rfl, h2, ?_⟩
    have hgr : ∀ (vs : List Value) (o : Nat) {w1 : World}, w.grownBy w1 (some g) → w.grownBy (w1.setCells w.heap.size o vs) (some g) := fun vs => by
      induction vs with
      | nil => exact fun _ _ h => h
      | cons v r ih =>
        intro o w1 h
        rw [World.setCells]
        exact ih (o + 1) ⟨h.os, h.tape, h.output, by simpa [World.setCell] using h.size, fun k hk hne => (Below.heap_setCell w1 ⟨w.heap.size, o, none⟩ v k (by simp; omega)).trans (h.block k hk hne)⟩
    have hg0 : w.grownBy (w.alloc (.cells ROW 3)) (some g) := World.grownBy_alloc _ _ _
    have hg1 := hgr [.int .i64 x] i (w1 := (w.alloc (.cells ROW 3)).drew) ⟨hg0.os, hg0.tape, hg0.output, hg0.size, hg0.block⟩
    exact hgr ((ivs ls).drop i) (i + 1) ⟨hg1.os, hg1.tape, hg1.output, hg1.size, hg1.block⟩
end Go.Proofs.Ytlakdlghkniegaa
