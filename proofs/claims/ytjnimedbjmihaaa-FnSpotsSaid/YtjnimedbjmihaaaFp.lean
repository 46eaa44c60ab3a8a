/-
  Plain facts on nearest spots and boxes of spots, for laws.FnSpots. Conditions: stated at each theorem.
-/
import Derived.Test.YtjnimedbjmihaaaDw
import Derived.Test.YtjnimedbjmihaaaBoi
import Derived.Test.YtjnimedbjmihaaaIni
namespace Go.Proofs.Ytjnimedbjmihaaa
open Go.RowKit Go.Sort

theorem nearK_lt (l : List (Int × Int)) (px py : Int) : ∀ k, 0 < k → nearK l px py k < k
  | 0, h => absurd h (Nat.lt_irrefl 0)
  | k + 1, _ => by
    show (if _ then k else nearK l px py k) < k + 1
    split
    · omega
    · rcases Nat.eq_zero_or_pos k with h | h
      · subst h; exact Nat.zero_lt_one
      · have := nearK_lt l px py k h; omega
theorem nearK_least (l : List (Int × Int)) (px py : Int) : ∀ k i, i < k → sqAt l px py (nearK l px py k) ≤ sqAt l px py i
  | 0, i, h => absurd h (Nat.not_lt_zero i)
  | k + 1, i, h => by
    have ih := nearK_least l px py k
    by_cases hc : sqAt l px py k < sqAt l px py (nearK l px py k)
    · rw [← nearK_yes rfl hc]
      by_cases e : i = k
      · subst e; exact Int.le_refl _
      · exact Int.le_trans (Int.le_of_lt hc) (ih i (by omega))
    · rw [← nearK_no rfl hc]
      by_cases e : i = k
      · subst e; exact Int.not_lt.1 hc
      · exact ih i (by omega)
theorem sqI_comm (ax ay bx by_ : Int) : sqI bx by_ ax ay = sqI ax ay bx by_ := by
  unfold sqI
  rw [show bx - ax = -(ax - bx) by omega, show by_ - ay = -(ay - by_) by omega, Int.neg_mul_neg, Int.neg_mul_neg]
theorem fold_min : ∀ (xs : List Int) (a : Int), xs.foldl min a ≤ a ∧ ∀ x ∈ xs, xs.foldl min a ≤ x
  | [], a => ⟨Int.le_refl _, fun x hx => by cases hx⟩
  | y :: t, a => by
    have ih := fold_min t (min a y)
    show t.foldl min (min a y) ≤ a ∧ ∀ x ∈ y :: t, t.foldl min (min a y) ≤ x
    refine ⟨by have := ih.1; omega, fun x hx => ?_⟩
    rcases List.mem_cons.1 hx with rfl | h
    · have := ih.1; omega
    · exact ih.2 x h
theorem fold_max : ∀ (xs : List Int) (a : Int), a ≤ xs.foldl max a ∧ ∀ x ∈ xs, x ≤ xs.foldl max a
  | [], a => ⟨Int.le_refl _, fun x hx => by cases hx⟩
  | y :: t, a => by
    have ih := fold_max t (max a y)
    show a ≤ t.foldl max (max a y) ∧ ∀ x ∈ y :: t, x ≤ t.foldl max (max a y)
    refine ⟨by have := ih.1; omega, fun x hx => ?_⟩
    rcases List.mem_cons.1 hx with rfl | h
    · have := ih.1; omega
    · exact ih.2 x h
theorem fold_min_ge (lo : Int) : ∀ (xs : List Int) (a : Int), lo ≤ a → (∀ x ∈ xs, lo ≤ x) → lo ≤ xs.foldl min a
  | [], a, h, _ => h
  | y :: t, a, h, hx => fold_min_ge lo t (min a y) (by have := hx y (List.mem_cons_self ..); omega) (fun x h2 => hx x (List.mem_cons_of_mem _ h2))
theorem fold_max_le (hi : Int) : ∀ (xs : List Int) (a : Int), a ≤ hi → (∀ x ∈ xs, x ≤ hi) → xs.foldl max a ≤ hi
  | [], a, h, _ => h
  | y :: t, a, h, hx => fold_max_le hi t (max a y) (by have := hx y (List.mem_cons_self ..); omega) (fun x h2 => hx x (List.mem_cons_of_mem _ h2))
theorem ext_facts {l : List (Int × Int)} (g : Int × Int → Int) (h0 : 0 < l.length) (hg : ∀ p ∈ l, 0 ≤ g p ∧ g p ≤ 1000) :
    (0 ≤ ext min g l l.length ∧ ext min g l l.length ≤ ext max g l l.length ∧ ext max g l l.length ≤ 1000) ∧ ∀ p ∈ l, ext min g l l.length ≤ g p ∧ g p ≤ ext max g l l.length := by
  have hd : l.getD 0 (0, 0) ∈ l := by
    rw [List.getD_eq_getElem?_getD, List.getElem?_eq_getElem h0]
    exact List.getElem_mem _
  have hm : ∀ x ∈ (l.take l.length).map g, 0 ≤ x ∧ x ≤ 1000 := by
    intro x hx
    rw [List.take_length] at hx
    obtain ⟨p, hp, rfl⟩ := List.mem_map.1 hx
    exact hg p hp
  have hp : ∀ p ∈ l, ext min g l l.length ≤ g p ∧ g p ≤ ext max g l l.length := by
    intro p hp
    have hx : g p ∈ (l.take l.length).map g := by rw [List.take_length]; exact List.mem_map.2 ⟨p, hp, rfl⟩
    exact ⟨(fold_min _ _).2 _ hx, (fold_max _ _).2 _ hx⟩
  refine ⟨⟨fold_min_ge 0 _ _ (hg _ hd).1 (fun x hx => (hm x hx).1), ?_, fold_max_le 1000 _ _ (hg _ hd).2 (fun x hx => (hm x hx).2)⟩, hp⟩
  have := hp _ hd
  omega
theorem inK_all (a b c d : Int) (l : List (Int × Int)) (h : ∀ p ∈ l, inBoxB a b c d p.1 p.2 = true) : ∀ k, k ≤ l.length → (inK a b c d l k).length = k
  | 0, _ => rfl
  | k + 1, hk => by
    have hx : l[k]? = some (l[k].1, l[k].2) := List.getElem?_eq_getElem (by omega)
    rw [inK_yes hx (h _ (List.getElem_mem _)), List.length_append, inK_all a b c d l h k (by omega)]
    rfl
/-- All that laws.FnSpots asks where there is a nearest spot. -/
theorem spots_facts {l : List (Int × Int)} {px py : Int} (h : nearOk l px py = true) : ∃ (I : Nat) (P Q S T : Int), I < l.length ∧ nearI l px py = (I : Int) ∧
    boV l = .tuple #[.agg #[.int .i64 P, .int .i64 Q, .int .i64 S, .int .i64 T], .bool true] ∧ boxB P Q S T = true ∧ inOk P Q S T l = true ∧ (inX P Q S T l).length = l.length ∧
    (∀ (i : Nat) (x y x' y' : Int), l[i]? = some (x, y) → l[I]? = some (x', y') → sqI x' y' px py ≤ sqI x y px py) ∧ (∀ (i : Nat) (x y : Int), l[i]? = some (x, y) → sqK x y px py = true ∧ sqK px py x y = true) := by
  have hn := h
  unfold nearOk at h
  rw [Bool.and_eq_true, Bool.and_eq_true] at h
  obtain ⟨⟨h1, h2⟩, h3⟩ := h
  have h0 : 0 < l.length := of_decide_eq_true h3
  have hgx : ∀ p ∈ l, 0 ≤ p.1 ∧ p.1 ≤ 1000 := fun p hp => (spotB_yes ((List.all_eq_true.1 (spotsB_all h1).2) p hp)).1
  have hgy : ∀ p ∈ l, 0 ≤ p.2 ∧ p.2 ≤ 1000 := fun p hp => (spotB_yes ((List.all_eq_true.1 (spotsB_all h1).2) p hp)).2
  have fx := ext_facts (·.1) h0 hgx
  have fy := ext_facts (·.2) h0 hgy
  have hb : boxB (ext min (·.1) l l.length) (ext min (·.2) l l.length) (ext max (·.1) l l.length) (ext max (·.2) l l.length) = true := boxB_mk fx.1 fy.1
  have hk : boK l = true := by unfold boK; rw [h1, decide_eq_true h0]; rfl
  have hio : inOk (ext min (·.1) l l.length) (ext min (·.2) l l.length) (ext max (·.1) l l.length) (ext max (·.2) l l.length) l = true := by unfold inOk; rw [h1, hb]; rfl
  refine ⟨nearK l px py l.length, _, _, _, _, nearK_lt l px py _ h0, ?_, (bo_yes hk).symm, hb, hio, ?_, ?_, ?_⟩
  · unfold nearI; rw [if_pos hn]
  · unfold inX
    rw [if_pos hio]
    refine inK_all _ _ _ _ l (fun p hp => ?_) _ (Nat.le_refl _)
    unfold inBoxB
    rw [inB_mk (fx.2 p hp).1 (fx.2 p hp).2, inB_mk (fy.2 p hp).1 (fy.2 p hp).2]
    rfl
  · intro i x y x' y' hi hI
    have hil := (List.getElem?_eq_some_iff.1 hi).1
    have := nearK_least l px py l.length i hil
    rw [sqAt_of hi, sqAt_of hI] at this
    exact this
  · intro i x y hi
    have hs : spotB x y = true := (List.all_eq_true.1 (spotsB_all h1).2) (x, y) (List.mem_of_getElem? hi)
    unfold sqK
    rw [hs, h2]
    exact ⟨rfl, rfl⟩
end Go.Proofs.Ytjnimedbjmihaaa
