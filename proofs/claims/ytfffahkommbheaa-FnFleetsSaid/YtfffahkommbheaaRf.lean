/-
  Plain facts for laws.FnFleets, and contracts of laws.rBig, rFleet, rInts, rHas over this translation. Conditions: stated at each theorem.
-/
import Derived.Test.YtfffahkommbheaaRx
import Derived.Test.YtfffahkommbheaaVz
import Derived.Test.YtfffahkommbheaaVc
import Derived.Test.YtfffahkommbheaaVy
import Derived.Test.YtfffahkommbheaaOc
import Derived.Laws.StructEq
namespace Go.Proofs.Ytfffahkommbheaa
open Go.RowKit

theorem rBig_any (A : Option Addr) (n c : Nat) (v : Bool) (h : decide ((65536 : Int) < n) = v) (w : World) : Calls Try.prog 15 #[.slice A n c] w fun e w' => e = .returned (.bool v) ∧ w = w' := by
  subst h
  by_cases hc : (65536 : Int) < n
  · have H := Lib.hid (decide_eq_true hc)
    go_enter Try.func15, Try.ntmps15
    go_wp2_with fail
    go_ret
    exact ⟨ret_bool H.out.symm, rfl⟩
  · have H := Lib.hid (decide_eq_false hc)
    go_enter Try.func15, Try.ntmps15
    go_wp2_with fail
    go_ret
    exact ⟨ret_bool H.out.symm, rfl⟩
set_option maxHeartbeats 800000 in
theorem rI_same (A A' : Option Addr) (n c c' lo hi lo' hi' : Nat) (f : Nat → Int) (w : World) (h1 : IFun w lo hi A n f) (h2 : IFun w lo' hi' A' n f) (hm : n ≤ 1048576) :
    Calls Try.prog 28 #[.slice A n c, .slice A' n c'] w fun e w' => e = .returned (.bool true) ∧ Below w.heap.size w w' := by
  have H1 := Lib.hid h1
  have H2 := Lib.hid h2
  clear h1 h2
  go_enter Try.func28, Try.ntmps28
  go_wp2
  go_loopw [5] (fun i wr => ∃ k d : Nat, k ≤ n ∧ i = .int .i64 k ∧ wr = w.drewN d) (fun i _ => n - (intOf i).toNat)
  case atStart => exact ⟨0, 0, Nat.zero_le _, rfl, by rw [World.drewN_zero]⟩
  case round =>
    obtain ⟨k, d, hk, rfl, rfl⟩ := hrel
    by_cases hlt : k < n
    · obtain ⟨g, rfl, _, _, hc1, _⟩ := H1.out k hlt
      obtain ⟨g', rfl, _, _, hc2, _⟩ := H2.out k hlt
      go_wp2_with fail
      go_quiet (fail)
      go_wp2
      go_roundw
      case rel => exact ⟨k + 1, _, by omega, by go_num, rfl⟩
      case measure => simp [intOf]; omega
    · go_wp2
      go_ret
      exact ⟨rfl, bdrewN (Below.refl _ _) _⟩
set_option maxHeartbeats 800000 in
theorem rHas_yes (A : Option Addr) (n c lo hi : Nat) (f : Nat → Int) (x : Int) (w : World) (h1 : IFun w lo hi A n f) (hm : n ≤ 1048576) (hx : ∃ j, j < n ∧ f j = x) :
    Calls Try.prog 25 #[.slice A n c, .int .i64 x] w fun e w' => e = .returned (.bool true) ∧ w = w' := by
  have H1 := Lib.hid h1
  have HX := Lib.hid hx
  clear h1 hx
  go_enter Try.func25, Try.ntmps25
  go_wp2_with fail
  go_loop [5] (fun i => ∃ k : Nat, k ≤ n ∧ i = .int .i64 k ∧ Hid (∀ p, p < k → f p ≠ x)) (fun i => n - (intOf i).toNat)
  case atStart => exact ⟨0, Nat.zero_le _, rfl, Lib.hid fun p hp => absurd hp (by omega)⟩
  case round =>
    obtain ⟨k, hk, rfl, hN⟩ := hrel
    by_cases hlt : k < n
    · obtain ⟨g, rfl, _, _, hc1, _⟩ := H1.out k hlt
      obtain ⟨y, hy⟩ : ∃ y, f k = y := ⟨_, rfl⟩
      rw [hy] at hc1
      by_cases he : y = x
      · have hd : (y == x) = true := by simpa using he
        clear he hy
        go_wp2_with fail
        go_ret
        exact ⟨rfl, rfl⟩
      · have hd : (y == x) = false := beq_eq_false_iff_ne.2 he
        have HN2 : Hid (∀ p, p < k + 1 → f p ≠ x) := Lib.hid fun p hp => by
          rcases Nat.lt_or_ge p k with h | h
          · exact hN.out p h
          · obtain rfl : p = k := by omega
            rw [hy]; exact he
        clear hy he
        go_wp2_with fail
        go_round
        case rel => exact ⟨k + 1, by omega, by go_num, HN2⟩
        case measure => simp [intOf]; omega
    · obtain ⟨j, hj, hf⟩ := HX.out
      exact absurd hf (hN.out j (by omega))
set_option maxRecDepth 20000 in
set_option maxHeartbeats 1600000 in
theorem rFleet_same (A A' : Option Addr) (n c c' : Nat) (L : List CC) (w : World) (h1 : Crafts w w.heap.size A n L) (h2 : Crafts w w.heap.size A' n L) (hm : n ≤ maxLen) :
    Calls Try.prog 19 #[.slice A n c, .slice A' n c'] w fun e w' => e = .returned (.bool true) ∧ Below w.heap.size w w' := by
  unfold maxLen at hm
  have H1 := Lib.hid h1
  have H2 := Lib.hid h2
  clear h1 h2
  go_enter Try.func19, Try.ntmps19
  go_wp2_with fail
  go_loopw [5] (fun i wr => ∃ k : Nat, k ≤ n ∧ i = .int .i64 k ∧ Hid (Below w.heap.size w wr)) (fun i _ => n - (intOf i).toNat)
  case atStart => exact ⟨0, Nat.zero_le _, rfl, Lib.hid (Below.refl _ _)⟩
  case round =>
    obtain ⟨k, hk, rfl, hB⟩ := hrel
    by_cases hlt : k < n
    · obtain ⟨b1, o1, v, rfl, hb1, hL1, hn1, p0, p1, p2, p3, p4, p5, p6⟩ := (crafts_at H1.out hB.out).2 k hlt
      obtain ⟨b2, o2, v', rfl, hb2, hL2, hn2, q0, q1, q2, q3, q4, q5, q6⟩ := (crafts_at H2.out hB.out).2 k hlt
      obtain rfl : v = v' := Option.some.inj (hL1.symm.trans hL2)
      clear hL1 hL2
      obtain ⟨W0, rfl⟩ : ∃ W : World, W = wr := ⟨_, rfl⟩
      go_wp2_with fail
      have lc0 := lcell (p0)
      have lc1 := lcell (p1)
      have lc2 := lcell (p2)
      have lc3 := lcell (p3)
      have lc4 := lcell (p4)
      have lc5 := lcell (p5)
      have lc6 := lcell (p6)
      have lc7 := lcell (q0)
      have lc8 := lcell (q1)
      have lc9 := lcell (q2)
      have lc10 := lcell (q3)
      have lc11 := lcell (q4)
      have lc12 := lcell (q5)
      have lc13 := lcell (q6)
      refine region_later (W := W0) (by kernel_rfl) (by kernel_rfl) (Below.refl _ _) ?_
      repeat (go_big_quiet_step (fail))
      refine wpQuiet_nil ?_
      intro W1 hW1
      have HL : Hid (Below W0.heap.size W0 W1) := by obtain ⟨x, rfl⟩ := hW1; exact Lib.hid x.below
      clear hW1 lc0 lc1 lc2 lc3 lc4 lc5 lc6 lc7 lc8 lc9 lc10 lc11 lc12 lc13
      have HT := Lib.hid (bthen hB.out HL.out hB.out.size)
      clear p0 p1 p2 p3 p4 p5 p6 q0 q1 q2 q3 q4 q5 q6
      go_wp2_with fail
      go_roundw
      case rel => exact ⟨k + 1, by omega, by go_num, HT⟩
      case measure => simp [intOf]; omega
    · obtain rfl : k = n := by omega
      go_wp2_with fail
      go_ret
      exact ⟨rfl, hB.out⟩
/-! ### Plain facts -/
theorem RW.cap {base : Nat} {L : List CC} {gb cap : Nat} {W : World} (h : RW base L (.slice (some ⟨gb, 0, none⟩) L.length cap) W) : L.length ≤ cap := by
  rcases h.2 with ⟨e, _⟩ | ⟨g, cap', cur, hv, _, _, hc, _⟩
  · cases e
  · injection hv with _ _ h3
    omega
theorem ufR_lenF (L : List CC) (id m : Int) : (ufR L id m).length ≤ L.length := by
  unfold ufR
  split <;> simp
theorem ufR_names {L : List CC} {id m : Int} (h : Names L) : ∀ v ∈ ufR L id m, v.nm.size ≤ maxLen := by
  unfold ufR
  split
  · rename_i hk
    intro v hv
    have hi : ufI L id m < L.length := by unfold ufK at hk; rw [Bool.and_eq_true] at hk; exact of_decide_eq_true hk.2
    rcases List.mem_or_eq_of_mem_set hv with h1 | rfl
    · exact h.max v h1
    · have he := List.getElem?_eq_getElem hi
      show (cOf L (ufI L id m)).nm.size ≤ maxLen
      rw [cOf_at he]
      exact h.max _ (List.getElem_mem hi)
  · intro v hv; cases hv
/-- What a place of the row with less fuel holds. -/
theorem uf_place {L : List CC} {id m : Int} {k : Nat} {u : CC} (hu : (ufR L id m)[k]? = some u) :
    ∃ v, L[k]? = some v ∧ craftB v = true ∧ (0 ≤ m ∧ m ≤ 10000) ∧ ((u.fu = v.fu ∧ v.id ≠ id) ∨ u.fu = v.fu - m) := by
  unfold ufR at hu
  split at hu
  · rename_i hk
    have hk' := hk
    unfold ufK at hk'
    rw [Bool.and_eq_true, Bool.and_eq_true] at hk'
    obtain ⟨⟨ha, hm⟩, hi⟩ := hk'
    have hi' := of_decide_eq_true hi
    have hkl : k < L.length := by have := (List.getElem?_eq_some_iff.1 hu).1; simpa using this
    obtain ⟨v, hv⟩ : ∃ v, L[k]? = some v := ⟨_, List.getElem?_eq_getElem hkl⟩
    obtain ⟨x, hx⟩ : ∃ x, L[ufI L id m]? = some x := ⟨_, List.getElem?_eq_getElem hi'⟩
    refine ⟨v, hv, areC_at ha hv, inB_yes hm, ?_⟩
    rw [cOf_at hx] at hu
    by_cases e : k = ufI L id m
    · subst e
      rw [List.getElem?_set_self hi'] at hu
      obtain rfl : x = v := Option.some.inj (hx.symm.trans hv)
      exact .inr (by rw [← Option.some.inj hu]; rfl)
    · rw [List.getElem?_set_ne (by omega)] at hu
      obtain rfl : v = u := Option.some.inj (hv.symm.trans hu)
      refine .inl ⟨rfl, fun hid => e ?_⟩
      have hp : ufP id m x = true := by
        have h1 : ufP id m L[ufI L id m] = true := List.findIdx_getElem
        obtain ⟨_, he⟩ := List.getElem?_eq_some_iff.1 hx
        rw [he] at h1; exact h1
      unfold ufP at hp
      rw [Bool.and_eq_true] at hp
      have hxid := of_decide_eq_true hp.1
      exact only_one (asc_of_areC ha) hx hv (by rw [hid, hxid])
  · cases hu
theorem cfS_from (L : List CC) (m d : Int) : ∀ k, k ≤ L.length → cfS L m d k = zC ∨ ∃ (j : Nat) (u : CC), L[j]? = some u ∧ cfS L m d k = u ∧ u.dr ≤ d := by
  intro k
  induction k with
  | zero => intro _; exact .inl rfl
  | succ k ih =>
    intro hk
    have hv := List.getElem?_eq_getElem (show k < L.length by omega)
    rw [cfS]
    split
    · rename_i hc
      rw [Bool.and_eq_true] at hc
      have h1 := hc.1
      unfold okF at h1
      rw [Bool.and_eq_true] at h1
      exact .inr ⟨k, _, hv, cOf_at hv, by rw [← cOf_at hv]; exact of_decide_eq_true h1.1⟩
    · exact ih (by omega)
theorem flL_mem {L : List CC} {d : Int} {j : Nat} {u : CC} (hu : L[j]? = some u) (hd : u.dr ≤ d) : u.id ∈ flL L d 0 L.length := by
  unfold flL
  rw [List.take_length]
  exact List.mem_map.2 ⟨u, List.mem_filter.2 ⟨List.mem_of_getElem? hu, decide_eq_true (by omega)⟩, rfl⟩
theorem mem_place {M : List Int} {x : Int} (h : x ∈ M) : ∃ j, j < M.length ∧ M.getD j 0 = x := by
  obtain ⟨j, hj⟩ := List.mem_iff_getElem?.1 h
  exact ⟨j, (List.getElem?_eq_some_iff.1 hj).1, by rw [List.getD_eq_getElem?_getD, hj]; rfl⟩
theorem shS_from (L : List CC) : ∀ k, k < L.length → (∃ j : Nat, L[j]? = some (shS L k)) ∧ ∀ (p : Nat) (u : CC), p ≤ k → L[p]? = some u → (shS L k).dr ≤ u.dr := by
  intro k
  induction k with
  | zero =>
    intro hk
    have hv := List.getElem?_eq_getElem hk
    refine ⟨⟨0, by rw [shS, cOf_at hv]; exact hv⟩, fun p u hp hu => ?_⟩
    obtain rfl : p = 0 := by omega
    rw [shS, cOf_at hu]
    exact Int.le_refl _
  | succ k ih =>
    intro hk
    obtain ⟨⟨j, hj⟩, hmin⟩ := ih (by omega)
    have hv := List.getElem?_eq_getElem hk
    rw [shS]
    split
    · rename_i hlt
      refine ⟨⟨k + 1, by rw [cOf_at hv]; exact hv⟩, fun p u hp hu => ?_⟩
      rcases Nat.lt_or_ge k p with h | h
      · obtain rfl : p = k + 1 := by omega
        rw [cOf_at hu]; exact Int.le_refl _
      · have := hmin p u h hu; omega
    · rename_i hlt
      refine ⟨⟨j, hj⟩, fun p u hp hu => ?_⟩
      rcases Nat.lt_or_ge k p with h | h
      · obtain rfl : p = k + 1 := by omega
        rw [cOf_at hu] at hlt; omega
      · exact hmin p u h hu
/-- What a chosen craft says of the row. -/
theorem chosen {L : List CC} {m d : Int} (h : 0 < cfV L m d) : flK L d 0 = true ∧ shK L = true ∧ (∃ j, j < (flR L d 0).length ∧ flF L d 0 j = cfV L m d) ∧ ∃ j, j < (flR L d 0).length ∧ flF L d 0 j = shV L := by
  unfold cfV at h
  split at h
  · rename_i hk
    have hk' := hk
    unfold cfK at hk'
    rw [Bool.and_eq_true] at hk'
    have hF : flK L d 0 = true := flK_4 hk'.1 hk'.2 (by decide)
    rcases cfS_from L m d L.length (Nat.le_refl _) with hz | ⟨j, u, hu, he, hd⟩
    · rw [hz] at h; exact absurd h (by decide)
    have hl := (List.getElem?_eq_some_iff.1 hu).1
    have hS : shK L = true := shK_3 hk'.1 (by omega)
    obtain ⟨⟨j2, hj2⟩, hmin⟩ := shS_from L (L.length - 1) (by omega)
    have hd2 := hmin j u (by omega) hu
    have e1 : cfV L m d = u.id := by unfold cfV; rw [hk, if_pos rfl, he]
    have e2 : shV L = (shS L (L.length - 1)).id := by unfold shV; rw [hS, if_pos rfl]
    refine ⟨hF, hS, ?_, ?_⟩
    · unfold flF; rw [fl_yes hF, e1]; exact mem_place (flL_mem hu hd)
    · unfold flF; rw [fl_yes hF, e2]; exact mem_place (flL_mem hj2 (by omega))
  · exact absurd h (by decide)
theorem cfI_v (A : Option Addr) (n c : Nat) (L : List CC) (m d V : Int) (b : Bool) (hV : cfV L m d = V) (hb : decide (0 < V) = b) (w : World) (hs : Crafts w w.heap.size A n L) (hm : n ≤ maxLen) (hcap : n ≤ c) :
    Calls Try.prog 21 #[.slice A n c, .int .i64 m, .int .i64 d] w fun e w' => e = .returned (.tuple #[.int .i64 V, .bool b]) ∧ Below w.heap.size w w' := by
  subst hV hb
  exact cfor_impl A n c L m d w hs hm hcap
theorem cfS_v (A : Option Addr) (n c : Nat) (L : List CC) (m d V : Int) (b : Bool) (hV : cfV L m d = V) (hb : decide (0 < V) = b) (w : World) (hs : Crafts w w.heap.size A n L) (hm : n ≤ maxLen) :
    Calls Try.prog 22 #[.slice A n c, .int .i64 m, .int .i64 d] w fun e w' => e = .returned (.tuple #[.int .i64 V, .bool b]) ∧ Below w.heap.size w w' := by
  subst hV hb
  exact cfor_spec A n c L m d w hs hm
theorem shI_v (A : Option Addr) (n c : Nat) (L : List CC) (V : Int) (b : Bool) (hV : shV L = V) (hb : shK L = b) (w : World) (hs : Crafts w w.heap.size A n L) (hm : n ≤ maxLen) (hcap : n ≤ c) :
    Calls Try.prog 24 #[.slice A n c] w fun e w' => e = .returned (.tuple #[.int .i64 V, .bool b]) ∧ Below w.heap.size w w' := by
  subst hV hb
  exact shal_impl A n c L w hs hm hcap
theorem shS_v (A : Option Addr) (n c : Nat) (L : List CC) (V : Int) (b : Bool) (hV : shV L = V) (hb : shK L = b) (w : World) (hs : Crafts w w.heap.size A n L) (hm : n ≤ maxLen) :
    Calls Try.prog 30 #[.slice A n c] w fun e w' => e = .returned (.tuple #[.int .i64 V, .bool b]) ∧ Below w.heap.size w w' := by
  subst hV hb
  exact shal_spec A n c L w hs hm
theorem areS_v (A : Option Addr) (n c : Nat) (L : List CC) (b : Bool) (hb : areC L = b) (w : World) (hs : Crafts w w.heap.size A n L) (hm : n ≤ maxLen) :
    Calls Try.prog 32 #[.slice A n c] w fun e w' => e = .returned (.bool b) ∧ Below w.heap.size w w' := by
  subst hb
  exact areC_spec A n c L w hs hm
end Go.Proofs.Ytfffahkommbheaa
