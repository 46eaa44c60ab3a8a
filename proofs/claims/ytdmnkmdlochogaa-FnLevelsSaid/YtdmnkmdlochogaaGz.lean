/-
  Plain facts for laws.FnLevels: high waters lie within the range; common times and the error of the zero the other way round. No program is spoken of but by the imports.
-/
import Derived.Test.YtdmnkmdlochogaaZeroS
import Derived.Test.YtdmnkmdlochogaaHigh
namespace Go.Proofs.Ytdmnkmdlochogaa
open Go.RowKit Go.Sort

/-! ### Least and greatest -/
theorem foldl_min_le : ∀ (L : List Int) (a : Int), L.foldl min a ≤ a ∧ ∀ x ∈ L, L.foldl min a ≤ x
  | [], a => ⟨Int.le_refl a, fun x hx => by cases hx⟩
  | y :: L, a => by
    obtain ⟨h1, h2⟩ := foldl_min_le L (min a y)
    rw [List.foldl_cons]
    refine ⟨by omega, fun x hx => ?_⟩
    rcases List.mem_cons.1 hx with rfl | hx
    · omega
    · exact h2 x hx
theorem foldl_max_ge : ∀ (L : List Int) (a : Int), a ≤ L.foldl max a ∧ ∀ x ∈ L, x ≤ L.foldl max a
  | [], a => ⟨Int.le_refl a, fun x hx => by cases hx⟩
  | y :: L, a => by
    obtain ⟨h1, h2⟩ := foldl_max_ge L (max a y)
    rw [List.foldl_cons]
    refine ⟨by omega, fun x hx => ?_⟩
    rcases List.mem_cons.1 hx with rfl | hx
    · omega
    · exact h2 x hx
/-- A high water of a valid gauge lies within the range. -/
theorem hw_in {id ze : Int} {nm : ByteArray} {l : List (Int × Int)} {k : Nat} {x y : Int} (h : (hwR id ze nm l)[k]? = some (x, y)) :
    rgK id ze nm l = true ∧ rgV min id ze nm l ≤ y + ze ∧ y + ze ≤ rgV max id ze nm l ∧ (-500 ≤ y ∧ y ≤ 2000) ∧ (-1000 ≤ ze ∧ ze ≤ 1000) := by
  unfold hwR at h
  split at h
  · rename_i hg
    unfold hwL at h
    obtain ⟨i, hi, he⟩ := List.mem_map.1 (List.mem_of_getElem? h)
    obtain ⟨hr, hb⟩ := List.mem_filter.1 hi
    have hil : i < l.length := by have : i < l.length - 1 := by simpa using hr
                                  omega
    have hl : l[i]? = some (x, y) := by rw [List.getElem?_eq_getElem hil]; simpa [List.getD, hil] using he
    have hK : rgK id ze nm l = true := by unfold rgK; rw [hg, decide_eq_true (by omega : 0 < l.length)]; rfl
    have hm : y ∈ (l.take l.length).map (·.2) := by rw [List.take_length]; exact List.mem_map.2 ⟨(x, y), List.mem_of_getElem? hl, rfl⟩
    have hst := read_at (good_of_gauge hg).2.2.2.2 hil
    rw [lv_of hl] at hst
    have h1 := (foldl_min_le ((l.take l.length).map (·.2)) ((l.getD 0 (0, 0)).2)).2 y hm
    have h2 := (foldl_max_ge ((l.take l.length).map (·.2)) ((l.getD 0 (0, 0)).2)).2 y hm
    refine ⟨hK, ?_, ?_, hst.2, inB_yes (good_of_gauge hg).2.2.1⟩
    · unfold rgV
      rw [if_pos hK]
      exact Int.add_le_add_right h1 ze
    · unfold rgV
      rw [if_pos hK]
      exact Int.add_le_add_right h2 ze
  · cases h
/-! ### Both ways -/
theorem asc_ext : ∀ (A B : List Int), A.Pairwise (· < ·) → B.Pairwise (· < ·) → (∀ x, x ∈ A ↔ x ∈ B) → A = B
  | [], [], _, _, _ => rfl
  | [], b :: B, _, _, h => by have := (h b).2 (by simp); cases this
  | a :: A, [], _, _, h => by have := (h a).1 (by simp); cases this
  | a :: A, b :: B, hA, hB, h => by
    obtain ⟨ha, hA'⟩ := List.pairwise_cons.1 hA
    obtain ⟨hb, hB'⟩ := List.pairwise_cons.1 hB
    have e : a = b := by
      rcases List.mem_cons.1 ((h a).1 (by simp)) with e | h1
      · exact e
      · rcases List.mem_cons.1 ((h b).2 (by simp)) with e | h2
        · exact e.symm
        · have := hb a h1; have := ha b h2; omega
    subst e
    congr 1
    refine asc_ext A B hA' hB' fun x => ⟨fun hx => ?_, fun hx => ?_⟩
    · rcases List.mem_cons.1 ((h x).1 (List.mem_cons_of_mem _ hx)) with e | h1
      · have := ha x hx; omega
      · exact h1
    · rcases List.mem_cons.1 ((h x).2 (List.mem_cons_of_mem _ hx)) with e | h1
      · have := hb x hx; omega
      · exact h1
theorem there_iff (l : List (Int × Int)) (t : Int) : thereB l t = true ↔ t ∈ l.map (·.1) := by
  unfold thereB atK
  rw [decide_eq_true_eq, List.findIdx_lt_length]
  constructor
  · rintro ⟨p, hp, he⟩
    exact List.mem_map.2 ⟨p, hp, by simpa using he⟩
  · intro h
    obtain ⟨p, hp, he⟩ := List.mem_map.1 h
    exact ⟨p, hp, by simpa using he⟩
theorem cm_mem {la lb : List (Int × Int)} (t : Int) : t ∈ cmL la lb ↔ t ∈ la.map (·.1) ∧ t ∈ lb.map (·.1) := by
  unfold cmL cmK
  rw [List.take_length]
  constructor
  · intro h
    obtain ⟨p, hp, rfl⟩ := List.mem_map.1 h
    obtain ⟨h1, h2⟩ := List.mem_filter.1 hp
    exact ⟨List.mem_map.2 ⟨p, h1, rfl⟩, (there_iff lb _).1 h2⟩
  · rintro ⟨h1, h2⟩
    obtain ⟨p, hp, rfl⟩ := List.mem_map.1 h1
    exact List.mem_map.2 ⟨p, List.mem_filter.2 ⟨hp, (there_iff lb _).2 h2⟩, rfl⟩
theorem asc_pair {l : List (Int × Int)} (h : Asc l) : (l.map (·.1)).Pairwise (· < ·) := by
  rw [List.pairwise_map, List.pairwise_iff_getElem]
  intro i j hi hj hij
  have := h i j hij hj
  rwa [tm_get l i hi, tm_get l j hj] at this
theorem cm_asc {la lb : List (Int × Int)} (h : Asc la) : (cmL la lb).Pairwise (· < ·) := by
  unfold cmL cmK
  rw [List.take_length]
  have h1 := asc_pair h
  rw [List.pairwise_map] at h1 ⊢
  exact h1.filter _
theorem cm_swap {la lb : List (Int × Int)} (ha : Asc la) (hb : Asc lb) : cmL lb la = cmL la lb :=
  asc_ext _ _ (cm_asc hb) (cm_asc ha) fun x => by rw [cm_mem, cm_mem]; exact And.comm
theorem two_swap (L : List GG) (a b : Int) : twoK L b a = twoK L a b := by
  unfold twoK
  have e : decide (b ≠ a) = decide (a ≠ b) := by rw [decide_eq_decide]; exact ne_comm
  rw [e]
  cases areB L <;> cases decide (0 ≤ plI L a) <;> cases decide (0 ≤ plI L b) <;> rfl
theorem com_swap (L : List GG) (a b : Int) : comR L b a = comR L a b := by
  unfold comR
  rw [two_swap L a b]
  split
  · rename_i h
    have hp := twoK_parts h
    exact cm_swap (asc_of_good (good_of_gauge (two_good hp.1 hp.2.1)).2.2.2.2) (asc_of_good (good_of_gauge (two_good hp.1 hp.2.2.1)).2.2.2.2)
  · rfl
theorem sum_neg (f g : Int → Int) : ∀ L : List Int, (L.map fun t => f t - g t).sum = -(L.map fun t => g t - f t).sum
  | [] => rfl
  | x :: L => by rw [List.map_cons, List.map_cons, List.sum_cons, List.sum_cons, sum_neg f g L]; omega
theorem zeK_swap (L : List GG) (a b : Int) : zeK L b a = zeK L a b := by unfold zeK; rw [two_swap L a b, com_swap L a b]
theorem zeS_swap (L : List GG) (a b : Int) : zeS L b a = -zeS L a b := by
  unfold zeS sumK
  rw [com_swap L a b]
  exact sum_neg _ _ _
theorem zeN_swap (L : List GG) (a b : Int) : zeN L b a = -zeN L a b := by
  unfold zeN
  rw [zeK_swap L a b, zeS_swap L a b, com_swap L a b]
  have : gd (-zeS L a b) (comR L a b).length = gd (zeS L a b) (comR L a b).length := by unfold gd; rw [Int.natAbs_neg]
  rw [this, Int.neg_tdiv]
  split <;> rfl
theorem zeD_swap (L : List GG) (a b : Int) : zeD L b a = zeD L a b := by
  unfold zeD
  rw [zeK_swap L a b, zeS_swap L a b, com_swap L a b]
  have : gd (-zeS L a b) (comR L a b).length = gd (zeS L a b) (comR L a b).length := by unfold gd; rw [Int.natAbs_neg]
  rw [this]
theorem zeN_bd (L : List GG) (a b : Int) : -67500 ≤ zeN L a b ∧ zeN L a b ≤ 67500 := by
  have h1 := sumK_bd (gAt L a) (gAt L b) (comR L a b) (comR L a b).length (Nat.le_refl _)
  have h2 := comR_len L a b
  have h3 : (zeS L a b).natAbs ≤ 67500 := by unfold zeS; omega
  unfold zeN
  split
  · have h4 := Int.natAbs_tdiv (zeS L a b) (gd (zeS L a b) (comR L a b).length : Nat)
    have h5 : ((zeS L a b).tdiv (gd (zeS L a b) (comR L a b).length : Nat)).natAbs ≤ 67500 := by
      rw [h4]
      exact Nat.le_trans (Nat.div_le_self _ _) h3
    omega
  · omega
theorem ze_told (L : List GG) (a b : Int) : zeK L a b = decide (0 < (comR L a b).length) := by
  unfold zeK
  rcases h : twoK L a b with _ | _
  · rw [com_no h]; rfl
  · rfl
end Go.Proofs.Ytdmnkmdlochogaa
