/-
  Sorting lines: contracts of cmp.Or, the closure of impl.sailedLines, slices.insertionSortCmpFunc, pdqsortCmpFunc, SortFunc over lines (at most eight) over this translation. Conditions: stated at each theorem.
-/
import Derived.Test.YtdmnkmdlochogabLr
import Derived.Test.YtdmnkmdlochogabCm
import Derived.Test.YtdmnkmdlochogabPw
import Derived.Test.YtdmnkmdlochogabCb
namespace Go.Proofs.Ytdmnkmdlochogab
open Go.RowKit
set_option linter.unusedVariables false

/-! ### Plainly: an order by insertion with swaps -/
def orN (a b : LN) : Int := if sgn (a.y - b.y) ≠ 0 then sgn (a.y - b.y) else sgn (a.id - b.id)
theorem orN_lt {a b : LN} : orN a b < 0 ↔ sbB a b := by
  unfold orN sbB sgn
  by_cases h1 : 0 < a.y - b.y
  · simp only [if_pos h1]; simp; omega
  · by_cases h2 : a.y - b.y < 0
    · simp only [if_neg h1, if_pos h2]; simp; omega
    · simp only [if_neg h1, if_neg h2]
      by_cases h3 : 0 < a.id - b.id
      · simp only [if_pos h3]; simp; omega
      · by_cases h4 : a.id - b.id < 0
        · simp only [if_neg h3, if_pos h4]; simp; omega
        · simp only [if_neg h3, if_neg h4]; simp; omega
theorem orN_bd (a b : LN) : -1 ≤ orN a b ∧ orN a b ≤ 1 := by
  unfold orN sgn
  split <;> split <;> (try split) <;> omega
theorem sb_trans {a b c : LN} (h : sbB a b) (k : sbB b c) : sbB a c := by unfold sbB at *; omega
theorem sb_else {a b : LN} (h : ¬ sbB a b) (hi : a.id ≠ b.id) : sbB b a := by unfold sbB at *; omega
def Srt (M : List LN) (i : Nat) : Prop := ∀ p q : Nat, p < q → q < i → sbB (lnAt M p) (lnAt M q)
structure Insd (M : List LN) (i j : Nat) : Prop where
  le : j ≤ i
  rest : ∀ p q : Nat, p < q → q ≤ i → p ≠ j → q ≠ j → sbB (lnAt M p) (lnAt M q)
  up : ∀ q : Nat, j < q → q ≤ i → sbB (lnAt M j) (lnAt M q)
theorem ins_start {M : List LN} {i : Nat} (h : Srt M i) : Insd M i i := ⟨Nat.le_refl _, fun p q h1 h2 h3 h4 => h p q h1 (by omega), fun q h1 h2 => absurd h1 (by omega)⟩
theorem ins_end0 {M : List LN} {i : Nat} (h : Insd M i 0) : Srt M (i + 1) := fun p q h1 h2 => by
  by_cases hp : p = 0
  · subst hp; exact h.up q h1 (by omega)
  · exact h.rest p q h1 (by omega) hp (by omega)
theorem ins_endj {M : List LN} {i j : Nat} (h : Insd M i (j + 1)) (hs : sbB (lnAt M j) (lnAt M (j + 1))) : Srt M (i + 1) := fun p q h1 h2 => by
  by_cases hp : p = j + 1
  · subst hp; exact h.up q h1 (by omega)
  by_cases hq : q = j + 1
  · subst hq
    by_cases hpj : p = j
    · subst hpj; exact hs
    · exact sb_trans (h.rest p j (by omega) (by have := h.le; omega) hp (by omega)) hs
  · exact h.rest p q h1 (by omega) hp hq
def swp9 (M : List LN) (j : Nat) : List LN := (M.set (j + 1) (lnAt M j)).set j (lnAt M (j + 1))
theorem swp9_len (M : List LN) (j : Nat) : (swp9 M j).length = M.length := by simp [swp9]
theorem swp9_get {M : List LN} {j : Nat} (h : j + 1 < M.length) (k : Nat) : (swp9 M j)[k]? = if k = j then some (lnAt M (j + 1)) else if k = j + 1 then some (lnAt M j) else M[k]? := by
  unfold swp9
  rw [List.getElem?_set, List.getElem?_set, List.length_set]
  by_cases h1 : k = j
  · subst h1; rw [if_pos rfl, if_pos (by omega), if_pos rfl]
  · rw [if_neg (fun e => h1 e.symm), if_neg h1]
    by_cases h2 : k = j + 1
    · subst h2; rw [if_pos rfl, if_pos h, if_pos rfl]
    · rw [if_neg (fun e => h2 e.symm), if_neg h2]
theorem swp9_at {M : List LN} {j : Nat} (h : j + 1 < M.length) (k : Nat) (hk : k < M.length) : lnAt (swp9 M j) k = if k = j then lnAt M (j + 1) else if k = j + 1 then lnAt M j else lnAt M k := by
  refine lnAt_at ?_
  rw [swp9_get h]
  split
  · rfl
  · split
    · rfl
    · exact lnAt_get hk
theorem swp9_perm {M : List LN} {j : Nat} (h : j + 1 < M.length) : (swp9 M j).Perm M := by
  have h1 := List.set_set_perm h (show j < M.length by omega)
  have e1 : lnAt M j = M[j]'(by omega) := lnAt_at (List.getElem?_eq_getElem _)
  have e2 : lnAt M (j + 1) = M[j + 1] := lnAt_at (List.getElem?_eq_getElem _)
  unfold swp9
  rw [e1, e2]
  exact h1
theorem ins_step {M : List LN} {i j : Nat} (hi : i < M.length) (h : Insd M i (j + 1)) (hs : sbB (lnAt M (j + 1)) (lnAt M j)) : Insd (swp9 M j) i j := by
  have hle := h.le
  have hj : j + 1 < M.length := by omega
  refine ⟨by omega, fun p q h1 h2 h3 h4 => ?_, fun q h1 h2 => ?_⟩
  · rw [swp9_at hj p (by omega), swp9_at hj q (by omega), if_neg h3, if_neg h4]
    by_cases hp : p = j + 1
    · rw [if_pos hp, if_neg (by omega)]
      exact h.rest j q (by omega) h2 (by omega) (by omega)
    · rw [if_neg hp]
      by_cases hq : q = j + 1
      · rw [if_pos hq]; exact h.rest p j (by omega) (by omega) hp (by omega)
      · rw [if_neg hq]; exact h.rest p q h1 h2 hp hq
  · rw [swp9_at hj j (by omega), swp9_at hj q (by omega), if_pos rfl, if_neg (by omega)]
    by_cases hq : q = j + 1
    · rw [if_pos hq]; exact hs
    · rw [if_neg hq]; exact h.up q (by omega) h2
/-- Different lines have different ids. -/
def Apart9 (M : List LN) : Prop := (M.map LN.id).Nodup
theorem apart_perm {M N : List LN} (h : Apart9 M) (hp : N.Perm M) : Apart9 N := (hp.map LN.id).nodup_iff.2 h
theorem apart_at {M : List LN} (h : Apart9 M) {p q : Nat} (hp : p < M.length) (hq : q < M.length) (hne : p ≠ q) : (lnAt M p).id ≠ (lnAt M q).id := by
  intro e
  have h1 := List.nodup_iff_pairwise_ne.1 h
  rw [List.pairwise_iff_getElem] at h1
  have e1 : lnAt M p = M[p] := lnAt_at (List.getElem?_eq_getElem _)
  have e2 : lnAt M q = M[q] := lnAt_at (List.getElem?_eq_getElem _)
  rcases Nat.lt_or_gt_of_ne hne with hlt | hlt
  · have := h1 p q (by simpa using hp) (by simpa using hq) hlt
    simp only [List.getElem_map] at this
    rw [e1, e2] at e
    exact this e
  · have := h1 q p (by simpa using hq) (by simpa using hp) hlt
    simp only [List.getElem_map] at this
    rw [e1, e2] at e
    exact this e.symm
theorem apart_good {L : List LN} (h : Good9 L) : Apart9 L := by
  unfold Apart9
  rw [List.nodup_iff_pairwise_ne, List.pairwise_iff_getElem]
  intro i j hi hj hij e
  rw [List.length_map] at hi hj
  simp only [List.getElem_map] at e
  have := h.lt hij hj
  rw [lnAt_at (List.getElem?_eq_getElem hi), lnAt_at (List.getElem?_eq_getElem hj)] at this
  omega
theorem srt_pair {M : List LN} (h : Srt M M.length) : M.Pairwise sbB := by
  rw [List.pairwise_iff_getElem]
  intro i j hi hj hij
  have := h i j hij hj
  rwa [lnAt_at (List.getElem?_eq_getElem hi), lnAt_at (List.getElem?_eq_getElem hj)] at this
/-! ### cmp.Or, the closure -/
theorem cmp_v (x y v : Int) (h : sgn (x - y) = v) (w : World) : Calls Try.prog 124 #[.int .i64 x, .int .i64 y] w fun e w' => e = .returned (.int .i64 v) ∧ w = w' := h ▸ cmp_any x y w
set_option maxHeartbeats 800000 in
theorem or_two (x y v : Int) (h : (if x ≠ 0 then x else y) = v) (g : Nat) (w : World) (h0 : w.cell? ⟨g, 0, none⟩ = some (.int .i64 x)) (h1 : w.cell? ⟨g, 1, none⟩ = some (.int .i64 y)) :
    Calls Try.prog 165 #[.slice (some ⟨g, 0, none⟩) 2 2] w fun e w' => e = .returned (.int .i64 v) ∧ w = w' := by
  by_cases hx : x = 0
  · have HR : Hid (y = v) := by unfold Hid; rw [← h, if_neg (by omega)]
    clear h
    subst hx
    by_cases hy : y = 0
    · subst hy
      go_enter Try.func165, Try.ntmps165
      go_wp2_with fail
      go_loop [8] (fun i => i = .int .i64 ((0 : Nat) : Int) ∨ i = .int .i64 ((1 : Nat) : Int) ∨ i = .int .i64 ((2 : Nat) : Int)) (fun i => (2 - intOf i).toNat)
      case atStart => exact .inl rfl
      case round =>
        rcases hrel with rfl | rfl | rfl
        · go_wp2_with fail
          go_round
          case rel => exact .inr (.inl (by go_num))
          case measure => simp [intOf]
        · go_wp2_with fail
          go_round
          case rel => exact .inr (.inr (by go_num))
          case measure => simp [intOf]
        · go_wp2_with fail
          go_ret
          exact ⟨ret_int HR.out, rfl⟩
    · have hne : (y == 0) = false := beq_eq_false_iff_ne.2 hy
      go_enter Try.func165, Try.ntmps165
      go_wp2_with fail
      go_loop [8] (fun i => i = .int .i64 ((0 : Nat) : Int) ∨ i = .int .i64 ((1 : Nat) : Int)) (fun i => (2 - intOf i).toNat)
      case atStart => exact .inl rfl
      case round =>
        rcases hrel with rfl | rfl
        · go_wp2_with fail
          go_round
          case rel => exact .inr (by go_num)
          case measure => simp [intOf]
        · go_wp2_with fail
          go_ret
          exact ⟨ret_int HR.out, rfl⟩
  · have HR : Hid (x = v) := by unfold Hid; rw [← h, if_pos hx]
    have hne : (x == 0) = false := beq_eq_false_iff_ne.2 hx
    clear h
    go_enter Try.func165, Try.ntmps165
    go_wp2_with fail
    go_loop [8] (fun i => i = .int .i64 ((0 : Nat) : Int)) (fun i => (2 - intOf i).toNat)
    case atStart => rfl
    case round =>
      obtain rfl := hrel
      go_wp2_with fail
      go_ret
      exact ⟨ret_int HR.out, rfl⟩
set_option maxRecDepth 20000 in
set_option maxHeartbeats 1600000 in
theorem ord_clo (u v : LN) (r : Int) (h : orN u v = r) (w : World) :
    Calls Try.prog 164 #[.agg #[.int .i64 u.id, .int .i64 u.y, .int .i64 u.fr, .int .i64 u.to, .int .i64 u.sw], .agg #[.int .i64 v.id, .int .i64 v.y, .int .i64 v.fr, .int .i64 v.to, .int .i64 v.sw]] w fun e w' => e = .returned (.int .i64 r) ∧ Below w.heap.size w w' := by
  obtain ⟨s1, hs1⟩ : ∃ s, sgn (u.y - v.y) = s := ⟨_, rfl⟩
  obtain ⟨s2, hs2⟩ : ∃ s, sgn (u.id - v.id) = s := ⟨_, rfl⟩
  have HR : Hid ((if s1 ≠ 0 then s1 else s2) = r) := by unfold Hid; rw [← hs1, ← hs2]; exact h
  have H1 := Lib.hid hs1
  have H2 := Lib.hid hs2
  clear hs1 hs2 h
  have HX0 := box2 (w := w) (cs := #[.int .i64 u.id, .int .i64 u.y, .int .i64 u.fr, .int .i64 u.to, .int .i64 u.sw]) (ds := #[.int .i64 v.id, .int .i64 v.y, .int .i64 v.fr, .int .i64 v.to, .int .i64 v.sw]) (T := 34) (T' := 34) (Below.refl _ _)
  obtain ⟨W0, hW0⟩ : ∃ W, W = (w.alloc (.cells #[.int .i64 u.id, .int .i64 u.y, .int .i64 u.fr, .int .i64 u.to, .int .i64 u.sw] 34)).alloc (.cells #[.int .i64 v.id, .int .i64 v.y, .int .i64 v.fr, .int .i64 v.to, .int .i64 v.sw] 34) := ⟨_, rfl⟩
  rw [← hW0] at HX0
  have HX := Lib.hid HX0
  have HE := Lib.hid hW0
  clear HX0 hW0
  have a0 := HX.out.2.1.at_ 0 _ rfl
  have a1 := HX.out.2.1.at_ 1 _ rfl
  have b0 := HX.out.2.2.at_ 0 _ rfl
  have b1 := HX.out.2.2.at_ 1 _ rfl
  go_enter Try.func164, Try.ntmps164
  go_wp2_with fail
  rw [← HE.out]
  have lc0 := lcell a0
  have lc1 := lcell a1
  have lc2 := lcell b0
  have lc3 := lcell b1
  refine region_reads (W := W0) 12 5 [0, 1, 2, 3, 5, 6, 7, 8] (by kernel_rfl) (by kernel_rfl) rfl (Below.refl _ _) (fun d _ _ _ _ h => by cases d <;> exact h) ?_
  simp only [picks, List.getElem?_cons_succ, List.getElem?_cons_zero]
  repeat (go_big_quiet_step (fail))
  refine wpQuiet_nil ?_
  intro W3 hW1
  have HL : Hid (Below W0.heap.size W0 W3) := by obtain ⟨x, rfl⟩ := hW1; exact Lib.hid x.below
  clear hW1 lc0 lc1 lc2 lc3 a0 a1 b0 b1
  refine wpAnyN_one (i := 4) (by kernel_rfl) ?_
  refine wpOp_step rfl (fun K hK => ?_)
  rw [if_pos (by rfl)]
  go_simp
  refine (cmp_v _ _ s1 H1.out _).mono ?_
  rintro e w' ⟨rfl, rfl⟩
  refine hK _ _ ⟨⟨⟨_, HL.out⟩, rfl⟩, ?_⟩
  clear hK K
  refine wpAnyN_one (i := 9) (by kernel_rfl) ?_
  refine wpOp_step rfl (fun K hK => ?_)
  rw [if_pos (by rfl)]
  go_simp
  refine (cmp_v _ _ s2 H2.out _).mono ?_
  rintro e w' ⟨rfl, rfl⟩
  refine hK _ _ ⟨⟨⟨_, HL.out⟩, rfl⟩, ?_⟩
  clear hK K
  refine wpAnyN_one (i := 10) (by kernel_rfl) ?_
  refine wpOp_step rfl (fun K hK => ?_)
  rw [if_pos (by rfl)]
  have HB4 := Lib.hid (HL.out.alloc HL.out.size (.cells #[.int .i64 s1, .int .i64 s2] 3))
  have HN4 := Lib.hid (Has.new W3 #[.int .i64 s1, .int .i64 s2] 3)
  go_simp
  refine hK _ _ ⟨⟨⟨_, HB4.out⟩, rfl⟩, ?_⟩
  clear hK K
  refine wpAnyN_one (i := 11) (by kernel_rfl) ?_
  refine wpOp_step rfl (fun K hK => ?_)
  rw [if_pos (by rfl)]
  go_simp
  refine (or_two s1 s2 r HR.out _ _ (HN4.out.at_ 0 _ rfl) (HN4.out.at_ 1 _ rfl)).mono ?_
  rintro e w' ⟨rfl, rfl⟩
  refine hK _ _ ⟨⟨⟨_, HB4.out⟩, rfl⟩, ?_⟩
  clear hK K
  have HF := Lib.hid (bthen HX.out.1 HB4.out HX.out.1.size)
  refine wpAnyN_end rfl (by kernel_rfl) rfl ?_
  simp only [List.drop_succ_cons, List.drop_zero]
  go_wp2_with fail
  go_ret
  exact ⟨rfl, HF.out⟩
/-! ### A row whose elements are changed -/
theorem setL_other9 (vs : List Value) : ∀ (w : World) (g o q : Nat), (q < o ∨ o + vs.length ≤ q) → (setL w g o vs).cell? ⟨g, q, none⟩ = w.cell? ⟨g, q, none⟩ := by
  induction vs with
  | nil => intro w g o q _; rfl
  | cons v vs ih =>
    intro w g o q h
    simp only [List.length_cons] at h
    refine (ih (w.setCell ⟨g, o, none⟩ v) g (o + 1) q (by omega)).trans ?_
    exact World.cell?_setCell_other _ _ _ _ (fun e => by injection e with _ e2; omega)
theorem setL_grown9 (vs : List Value) : ∀ (w : World) (g o : Nat), w.grownBy (setL w g o vs) (some g) := by
  induction vs with
  | nil => intro w g o; exact World.grownBy.refl _ _
  | cons v vs ih => intro w g o; exact grown_trans9 (grown_set w ⟨g, o, none⟩ v) (ih _ g (o + 1))
theorem FillSN.repl {w : World} {B g n : Nat} {L : List LN} (h : FillSN w B g n n L) (hl : L.length = n) {k : Nat} (hk : k < n) (v : LN) : FillSN (setL w g (k * 5) [.int .i64 v.id, .int .i64 v.y, .int .i64 v.fr, .int .i64 v.to, .int .i64 v.sw]) B g n n (L.set k v) := by
  have h0 := (h.bare L).puts [.int .i64 v.id, .int .i64 v.y, .int .i64 v.fr, .int .i64 v.to, .int .i64 v.sw] (k * 5) (Nat.zero_le _)
  have hat := setL_at [.int .i64 v.id, .int .i64 v.y, .int .i64 v.fr, .int .i64 v.to, .int .i64 v.sw] w g (k * 5) (fun i hi => h.cells _ (by simp only [List.length_cons, List.length_nil] at hi; omega))
  refine ⟨h0.low, h0.lt, h0.free, h0.cells, fun j hj => ?_⟩
  by_cases e : j = k
  · subst e
    exact ⟨v, by rw [List.getElem?_set, if_pos rfl, if_pos (by omega)], hat 0 _ rfl, hat 1 _ rfl, hat 2 _ rfl, hat 3 _ rfl, hat 4 _ rfl⟩
  · obtain ⟨u, hu, h5⟩ := h.done j hj
    exact ⟨u, by rw [List.getElem?_set, if_neg (fun h => e h.symm)]; exact hu, at5_otherN h5 fun q h1 h2 => setL_other9 _ _ _ _ _ (by simp only [List.length_cons, List.length_nil]; omega)⟩
theorem FillSN.swap9 {w : World} {B g n : Nat} {M : List LN} (h : FillSN w B g n n M) (hl : M.length = n) {j : Nat} (hj : j + 1 < n) {a b : LN} (ha : lnAt M j = a) (hb : lnAt M (j + 1) = b) :
    FillSN (setL (setL w g ((j + 1) * 5) [.int .i64 a.id, .int .i64 a.y, .int .i64 a.fr, .int .i64 a.to, .int .i64 a.sw]) g (j * 5) [.int .i64 b.id, .int .i64 b.y, .int .i64 b.fr, .int .i64 b.to, .int .i64 b.sw]) B g n n (swp9 M j) := by
  subst ha
  subst hb
  have h1 := h.repl hl hj (lnAt M j)
  exact h1.repl (by rw [List.length_set]; exact hl) (by omega) (lnAt M (j + 1))
/-! ### slices.insertionSortCmpFunc -/
/-- A sorted row. -/
def SortPost (B g n : Nat) (M : List LN) (w : World) (e : Ending) (w' : World) : Prop :=
  e = .returned (.tuple #[]) ∧ ∃ N : List LN, N.Perm M ∧ N.Pairwise sbB ∧ FillSN w' B g n n N ∧ w.grownBy w' (some g)
set_option maxRecDepth 20000 in
set_option maxHeartbeats 6400000 in
theorem isort_any (B g cap n : Nat) (M : List LN) (w : World) (h : FillSN w B g n n M) (hl : M.length = n) (h0 : 1 ≤ n) (h8 : n ≤ 8) (hap : Apart9 M) :
    Calls Try.prog 192 #[.slice (some ⟨g, 0, none⟩) n cap, .int .i64 0, .int .i64 n, .func (.func 164) #[] #[]] w (SortPost B g n M w) := by
  have HF0 := Lib.hid h
  have HAP := Lib.hid hap
  have HLM := Lib.hid hl
  clear h hap hl
  go_enter Try.func192, Try.ntmps192
  go_wp2_with fail
  go_loopw [8] (fun s wr => ∃ (i : Nat) (N : List LN), 1 ≤ i ∧ i ≤ n ∧ s = .int .i64 i ∧ Hid (N.Perm M) ∧ Hid (Srt N i) ∧ Hid (FillSN wr B g n n N) ∧ Hid (w.grownBy wr (some g))) (fun s _ => n - (intOf s).toNat)
  case atStart => exact ⟨1, M, Nat.le_refl _, h0, rfl, Lib.hid (List.Perm.refl _), Lib.hid (fun p q h1 h2 => absurd h1 (by omega)), HF0, Lib.hid (World.grownBy.refl _ _)⟩
  case round =>
    obtain ⟨i, N0, hi1, hin, rfl, hP0, hS0, hF0, hG0⟩ := hrel
    by_cases hlt : i < n
    · go_wp2_with fail
      go_loopw [9] (fun s wr => ∃ (j : Nat) (N : List LN), j ≤ i ∧ s = .int .i64 j ∧ Hid (N.Perm M) ∧ Hid (Insd N i j) ∧ Hid (FillSN wr B g n n N) ∧ Hid (w.grownBy wr (some g))) (fun s _ => (intOf s).toNat)
      case atStart => exact ⟨i, N0, Nat.le_refl _, rfl, hP0, Lib.hid (ins_start hS0.out), hF0, hG0⟩
      case round =>
        obtain ⟨j, N, hji, rfl, hP, hI, hF, hG⟩ := hrel
        obtain ⟨wq, hwq⟩ : ∃ wq : World, wq = wr := ⟨_, rfl⟩
        rw [← hwq] at hF hG ⊢
        clear hwq
        have HLN : Hid (N.length = n) := Lib.hid (hP.out.length_eq.trans HLM.out)
        rcases j with _ | j
        · have HS1 := Lib.hid (ins_end0 hI.out)
          go_wp2_with fail
          refine region_later (W := wq) (by kernel_rfl) (by kernel_rfl) (Below.refl _ _) ?_
          repeat (go_big_quiet_step ((fail)))
          refine wpQuiet_nil ?_
          intro W1 hW1
          have HL : Hid (Below wq.heap.size wq W1) := by obtain ⟨x, rfl⟩ := hW1; exact Lib.hid x.below
          clear hW1
          have HF1 := Lib.hid (hF.out.next HL.out)
          have HG1 := Lib.hid (grown_trans9 hG.out (grown_below9 (some g) HL.out))
          go_wp2_with fail
          go_roundw
          case rel => first | exact ⟨i + 1, N, by omega, by omega, by go_num, hP, HS1, HF1, HG1⟩ | ((repeat apply Exists.intro); exact ⟨⟨i + 1, N, by omega, by omega, by go_num, hP, HS1, HF1, HG1⟩, rfl⟩)
          case measure => simp [intOf]; omega
        · obtain ⟨a, ha, c0, c1, c2, c3, c4⟩ := hF.out.done j (by omega)
          obtain ⟨b, hb, d0, d1, d2, d3, d4⟩ := hF.out.done (j + 1) (by omega)
          have HA := Lib.hid (lnAt_at ha)
          have HB := Lib.hid (lnAt_at hb)
          have HNE : Hid (b.id ≠ a.id) := by
            have h := apart_at (apart_perm HAP.out hP.out) (p := j + 1) (q := j) (by have := HLN.out; omega) (by have := HLN.out; omega) (by omega)
            rw [HA.out, HB.out] at h
            exact Lib.hid h
          obtain ⟨r, hr⟩ : ∃ r, orN b a = r := ⟨_, rfl⟩
          have HR := Lib.hid hr
          have hrb := orN_bd b a
          rw [hr] at hrb
          obtain ⟨hrb1, hrb2⟩ := hrb
          clear hr ha hb
          by_cases hr0 : r < 0
          · have HSB : Hid (sbB b a) := Lib.hid (orN_lt.1 (by rw [HR.out]; exact hr0))
            have HI2 : Hid (Insd (swp9 N j) i j) := Lib.hid (ins_step (by have := HLN.out; omega) hI.out (by rw [HA.out, HB.out]; exact HSB.out))
            have HP2 : Hid ((swp9 N j).Perm M) := Lib.hid ((swp9_perm (by have := HLN.out; omega)).trans hP.out)
            have hd : decide (r < 0) = true := decide_eq_true hr0
            go_wp2_with fail
            have lc0 := lcell (c0)
            have lc1 := lcell (c1)
            have lc2 := lcell (c2)
            have lc3 := lcell (c3)
            have lc4 := lcell (c4)
            have lc5 := lcell (d0)
            have lc6 := lcell (d1)
            have lc7 := lcell (d2)
            have lc8 := lcell (d3)
            have lc9 := lcell (d4)
            refine region_later (W := wq) (by kernel_rfl) (by kernel_rfl) (Below.refl _ _) ?_
            repeat (go_big_quiet_step (((go_at_call 164; with_reducible exact later_call (ord_clo b a r HR.out _)))))
            refine wpQuiet_nil ?_
            intro W1 hW1
            have HL : Hid (Below wq.heap.size wq W1) := by obtain ⟨x, rfl⟩ := hW1; exact Lib.hid x.below
            clear hW1 lc0 lc1 lc2 lc3 lc4 lc5 lc6 lc7 lc8 lc9
            have HF1 := Lib.hid (hF.out.next HL.out)
            have HG1 := Lib.hid (grown_trans9 hG.out (grown_below9 (some g) HL.out))
            have e0 := cell_next HL.out c0
            have e1 := cell_next HL.out c1
            have e2 := cell_next HL.out c2
            have e3 := cell_next HL.out c3
            have e4 := cell_next HL.out c4
            have f0 := cell_next HL.out d0
            have f1 := cell_next HL.out d1
            have f2 := cell_next HL.out d2
            have f3 := cell_next HL.out d3
            have f4 := cell_next HL.out d4
            clear c0 c1 c2 c3 c4 d0 d1 d2 d3 d4
            go_wp2_with fail
            refine region_readsW 16 6 [0, 1, 2, 3, 4, 5, 6, 7, 8, 10, 11, 12] (by kernel_rfl) (by kernel_rfl) rfl (fun d _ _ _ _ h => by cases d <;> exact h) ?_
            simp only [picks, List.getElem?_cons_succ, List.getElem?_cons_zero]
            repeat (go_big_quiet_step (fail))
            refine wpQuiet_nil ?_
            obtain ⟨WD, hWD⟩ : ∃ WD, WD = W1.drew := ⟨_, rfl⟩
            rw [← hWD]
            have g0 : WD.cell? ⟨g, j * 5, none⟩ = some (.int .i64 a.id) := by rw [hWD]; exact e0
            have g1 : WD.cell? ⟨g, j * 5 + 1, none⟩ = some (.int .i64 a.y) := by rw [hWD]; exact e1
            have g2 : WD.cell? ⟨g, j * 5 + 2, none⟩ = some (.int .i64 a.fr) := by rw [hWD]; exact e2
            have g3 : WD.cell? ⟨g, j * 5 + 3, none⟩ = some (.int .i64 a.to) := by rw [hWD]; exact e3
            have g4 : WD.cell? ⟨g, j * 5 + 4, none⟩ = some (.int .i64 a.sw) := by rw [hWD]; exact e4
            have h0' : WD.cell? ⟨g, (j + 1) * 5, none⟩ = some (.int .i64 b.id) := by rw [hWD]; exact f0
            have h1' : WD.cell? ⟨g, (j + 1) * 5 + 1, none⟩ = some (.int .i64 b.y) := by rw [hWD]; exact f1
            have h2' : WD.cell? ⟨g, (j + 1) * 5 + 2, none⟩ = some (.int .i64 b.fr) := by rw [hWD]; exact f2
            have h3' : WD.cell? ⟨g, (j + 1) * 5 + 3, none⟩ = some (.int .i64 b.to) := by rw [hWD]; exact f3
            have h4' : WD.cell? ⟨g, (j + 1) * 5 + 4, none⟩ = some (.int .i64 b.sw) := by rw [hWD]; exact f4
            have z0 : ∀ q, WD.frozen? ⟨g, q, none⟩ = false := fun q => by rw [hWD]; exact HF1.out.free q
            have HFD : Hid (FillSN WD B g n n N) := by unfold Hid; rw [hWD]; exact HF1.out.next (Below.refl _ _).drew
            have HGD : Hid (w.grownBy WD (some g)) := by unfold Hid; rw [hWD]; exact grown_trans9 HG1.out (grown_below9 _ (Below.refl _ _).drew)
            clear hWD HF1 HG1 HL
            clear e0 e1 e2 e3 e4 f0 f1 f2 f3 f4
            refine wpAnyN_two (i := 9) (i' := 13) (by kernel_rfl) ?_ ?_
            · refine wpOp_step rfl (fun K hK => ?_)
              rw [if_pos (by rfl)]
              go_simp
              refine hK _ _ ⟨⟨⟨_, trivial⟩, rfl⟩, ?_⟩
              clear hK K
              refine wpAnyN_one (i := 13) (by kernel_rfl) ?_
              refine wpOp_step rfl (fun K hK => ?_)
              rw [if_pos (by rfl)]
              go_simp
              refine hK _ _ ⟨⟨⟨_, trivial⟩, rfl⟩, ?_⟩
              clear hK K
              refine wpAnyN_one (i := 14) (by kernel_rfl) ?_
              refine wpOp_step rfl (fun K hK => ?_)
              rw [if_pos (by rfl)]
              go_simp
              rw [if_pos (show 0 ≤ (j : Int) + 1 ∧ (j : Int) + 1 < (n : Int) by omega)]
              go_simp
              refine hK _ _ ⟨⟨⟨_, trivial⟩, rfl⟩, ?_⟩
              clear hK K
              refine wpAnyN_one (i := 15) (by kernel_rfl) ?_
              refine wpOp_step rfl (fun K hK => ?_)
              rw [if_pos (by rfl)]
              go_simp
              refine hK _ _ ⟨⟨⟨_, trivial⟩, rfl⟩, ?_⟩
              clear hK K
              refine wpAnyN_end rfl (by kernel_rfl) rfl ?_
              simp only [List.drop_succ_cons, List.drop_zero]
              obtain ⟨V, hV⟩ : ∃ V, V = setL WD g ((j + 1) * 5) [.int .i64 a.id, .int .i64 a.y, .int .i64 a.fr, .int .i64 a.to, .int .i64 a.sw] := ⟨_, rfl⟩
              rw [show (((((WD.setCell ⟨g, (j + 1) * 5, none⟩ (.int .i64 a.id)).setCell ⟨g, (j + 1) * 5 + 1, none⟩ (.int .i64 a.y)).setCell ⟨g, (j + 1) * 5 + 2, none⟩ (.int .i64 a.fr)).setCell ⟨g, (j + 1) * 5 + 3, none⟩ (.int .i64 a.to)).setCell ⟨g, (j + 1) * 5 + 4, none⟩ (.int .i64 a.sw)) = V from hV.symm]
              have HFV : Hid (FillSN V B g n n (N.set (j + 1) a)) := by rw [hV]; exact Lib.hid (HFD.out.repl HLN.out (by omega) a)
              have HGV : Hid (w.grownBy V (some g)) := by rw [hV]; exact Lib.hid (grown_trans9 HGD.out (setL_grown9 _ _ _ _))
              have HF3 : Hid (FillSN (setL V g (j * 5) [.int .i64 b.id, .int .i64 b.y, .int .i64 b.fr, .int .i64 b.to, .int .i64 b.sw]) B g n n (swp9 N j)) := by rw [hV]; exact Lib.hid (HFD.out.swap9 HLN.out (by omega) HA.out HB.out)
              have HG3 : Hid (w.grownBy (setL V g (j * 5) [.int .i64 b.id, .int .i64 b.y, .int .i64 b.fr, .int .i64 b.to, .int .i64 b.sw]) (some g)) := Lib.hid (grown_trans9 HGV.out (setL_grown9 _ _ _ _))
              obtain ⟨x0, k0⟩ := HFV.out.cells (j * 5) (by omega)
              obtain ⟨x1, k1⟩ := HFV.out.cells (j * 5 + 1) (by omega)
              obtain ⟨x2, k2⟩ := HFV.out.cells (j * 5 + 2) (by omega)
              obtain ⟨x3, k3⟩ := HFV.out.cells (j * 5 + 3) (by omega)
              obtain ⟨x4, k4⟩ := HFV.out.cells (j * 5 + 4) (by omega)
              have z0 := HFV.out.free (j * 5)
              have z1 := HFV.out.free (j * 5 + 1)
              have z2 := HFV.out.free (j * 5 + 2)
              have z3 := HFV.out.free (j * 5 + 3)
              have z4 := HFV.out.free (j * 5 + 4)
              clear hV g0 g1 g2 g3 g4 h0' h1' h2' h3' h4'
              go_wp2_with fail
              go_roundw
              case rel => first | exact ⟨j, swp9 N j, by omega, by go_num, HP2, HI2, HF3, HG3⟩ | ((repeat apply Exists.intro); rw [show decide ((i : Int) < n) = true from decide_eq_true (by omega)]; exact ⟨⟨j, swp9 N j, by omega, by go_num, HP2, HI2, HF3, HG3⟩, rfl⟩)
              case measure => simp [intOf]
            · refine wpOp_step rfl (fun K hK => ?_)
              rw [if_pos (by rfl)]
              go_simp
              refine hK _ _ ⟨⟨⟨_, trivial⟩, rfl⟩, ?_⟩
              clear hK K
              refine wpAnyN_one (i := 9) (by kernel_rfl) ?_
              refine wpOp_step rfl (fun K hK => ?_)
              rw [if_pos (by rfl)]
              go_simp
              refine hK _ _ ⟨⟨⟨_, trivial⟩, rfl⟩, ?_⟩
              clear hK K
              refine wpAnyN_one (i := 14) (by kernel_rfl) ?_
              refine wpOp_step rfl (fun K hK => ?_)
              rw [if_pos (by rfl)]
              go_simp
              rw [if_pos (show 0 ≤ (j : Int) + 1 ∧ (j : Int) + 1 < (n : Int) by omega)]
              go_simp
              refine hK _ _ ⟨⟨⟨_, trivial⟩, rfl⟩, ?_⟩
              clear hK K
              refine wpAnyN_one (i := 15) (by kernel_rfl) ?_
              refine wpOp_step rfl (fun K hK => ?_)
              rw [if_pos (by rfl)]
              go_simp
              refine hK _ _ ⟨⟨⟨_, trivial⟩, rfl⟩, ?_⟩
              clear hK K
              refine wpAnyN_end rfl (by kernel_rfl) rfl ?_
              simp only [List.drop_succ_cons, List.drop_zero]
              obtain ⟨V, hV⟩ : ∃ V, V = setL WD g ((j + 1) * 5) [.int .i64 a.id, .int .i64 a.y, .int .i64 a.fr, .int .i64 a.to, .int .i64 a.sw] := ⟨_, rfl⟩
              rw [show (((((WD.setCell ⟨g, (j + 1) * 5, none⟩ (.int .i64 a.id)).setCell ⟨g, (j + 1) * 5 + 1, none⟩ (.int .i64 a.y)).setCell ⟨g, (j + 1) * 5 + 2, none⟩ (.int .i64 a.fr)).setCell ⟨g, (j + 1) * 5 + 3, none⟩ (.int .i64 a.to)).setCell ⟨g, (j + 1) * 5 + 4, none⟩ (.int .i64 a.sw)) = V from hV.symm]
              have HFV : Hid (FillSN V B g n n (N.set (j + 1) a)) := by rw [hV]; exact Lib.hid (HFD.out.repl HLN.out (by omega) a)
              have HGV : Hid (w.grownBy V (some g)) := by rw [hV]; exact Lib.hid (grown_trans9 HGD.out (setL_grown9 _ _ _ _))
              have HF3 : Hid (FillSN (setL V g (j * 5) [.int .i64 b.id, .int .i64 b.y, .int .i64 b.fr, .int .i64 b.to, .int .i64 b.sw]) B g n n (swp9 N j)) := by rw [hV]; exact Lib.hid (HFD.out.swap9 HLN.out (by omega) HA.out HB.out)
              have HG3 : Hid (w.grownBy (setL V g (j * 5) [.int .i64 b.id, .int .i64 b.y, .int .i64 b.fr, .int .i64 b.to, .int .i64 b.sw]) (some g)) := Lib.hid (grown_trans9 HGV.out (setL_grown9 _ _ _ _))
              obtain ⟨x0, k0⟩ := HFV.out.cells (j * 5) (by omega)
              obtain ⟨x1, k1⟩ := HFV.out.cells (j * 5 + 1) (by omega)
              obtain ⟨x2, k2⟩ := HFV.out.cells (j * 5 + 2) (by omega)
              obtain ⟨x3, k3⟩ := HFV.out.cells (j * 5 + 3) (by omega)
              obtain ⟨x4, k4⟩ := HFV.out.cells (j * 5 + 4) (by omega)
              have z0 := HFV.out.free (j * 5)
              have z1 := HFV.out.free (j * 5 + 1)
              have z2 := HFV.out.free (j * 5 + 2)
              have z3 := HFV.out.free (j * 5 + 3)
              have z4 := HFV.out.free (j * 5 + 4)
              clear hV g0 g1 g2 g3 g4 h0' h1' h2' h3' h4'
              go_wp2_with fail
              go_roundw
              case rel => first | exact ⟨j, swp9 N j, by omega, by go_num, HP2, HI2, HF3, HG3⟩ | ((repeat apply Exists.intro); rw [show decide ((i : Int) < n) = true from decide_eq_true (by omega)]; exact ⟨⟨j, swp9 N j, by omega, by go_num, HP2, HI2, HF3, HG3⟩, rfl⟩)
              case measure => simp [intOf]
          · have HS1 : Hid (Srt N (i + 1)) := Lib.hid (ins_endj hI.out (by rw [HA.out, HB.out]; exact sb_else (fun h => hr0 (by rw [← HR.out]; exact orN_lt.2 h)) HNE.out))
            have hd : decide (r < 0) = false := decide_eq_false hr0
            go_wp2_with fail
            have lc0 := lcell (c0)
            have lc1 := lcell (c1)
            have lc2 := lcell (c2)
            have lc3 := lcell (c3)
            have lc4 := lcell (c4)
            have lc5 := lcell (d0)
            have lc6 := lcell (d1)
            have lc7 := lcell (d2)
            have lc8 := lcell (d3)
            have lc9 := lcell (d4)
            refine region_later (W := wq) (by kernel_rfl) (by kernel_rfl) (Below.refl _ _) ?_
            repeat (go_big_quiet_step (((go_at_call 164; with_reducible exact later_call (ord_clo b a r HR.out _)))))
            refine wpQuiet_nil ?_
            intro W1 hW1
            have HL : Hid (Below wq.heap.size wq W1) := by obtain ⟨x, rfl⟩ := hW1; exact Lib.hid x.below
            clear hW1 lc0 lc1 lc2 lc3 lc4 lc5 lc6 lc7 lc8 lc9
            have HF1 := Lib.hid (hF.out.next HL.out)
            have HG1 := Lib.hid (grown_trans9 hG.out (grown_below9 (some g) HL.out))
            clear c0 c1 c2 c3 c4 d0 d1 d2 d3 d4
            go_wp2_with fail
            go_roundw
            case rel => first | exact ⟨i + 1, N, by omega, by omega, by go_num, hP, HS1, HF1, HG1⟩ | ((repeat apply Exists.intro); exact ⟨⟨i + 1, N, by omega, by omega, by go_num, hP, HS1, HF1, HG1⟩, rfl⟩)
            case measure => simp [intOf]; omega
    · obtain rfl : i = n := by omega
      have HQ : Hid (SortPost B g i M w (.returned (.tuple #[])) wr) := Lib.hid ⟨rfl, N0, hP0.out, srt_pair (by rw [hP0.out.length_eq.trans HLM.out]; exact hS0.out), hF0.out, hG0.out⟩
      go_wp2_with fail
      go_end0
      exact HQ.out
end Go.Proofs.Ytdmnkmdlochogab
