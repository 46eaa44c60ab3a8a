/-
  The highest level of a span: contracts of impl.fraction.isAbove, impl.HighestLevel, spec.HighestLevel over this translation. Conditions: stated at each theorem.
-/
import Derived.Test.YtdmnkmdlochogaaTm
namespace Go.Proofs.Ytdmnkmdlochogaa
open Go.RowKit

/-- Is the level at t above the one at u? -/
def abvB (l : List (Int × Int)) (t u : Int) : Bool := decide (lvN l u * lvD l t < lvN l t * lvD l u)
/-- The first of the first k minutes from a on with the highest level. -/
def bestK (l : List (Int × Int)) (a : Int) : Nat → Nat
  | 0 => 0
  | k + 1 => if k = 0 then 0 else if abvB l (a + (k : Int)) (a + (bestK l a k : Int)) then k else bestK l a k
theorem best_one (l : List (Int × Int)) (a : Int) : bestK l a (0 + 1) = 0 := by simp [bestK]
theorem best_yes {l : List (Int × Int)} {a : Int} {k : Nat} (hk : 0 < k) (h : abvB l (a + (k : Int)) (a + (bestK l a k : Int)) = true) : bestK l a (k + 1) = k := by
  rw [bestK, if_neg (by omega), if_pos h]
theorem best_no {l : List (Int × Int)} {a : Int} {k : Nat} (hk : 0 < k) (h : abvB l (a + (k : Int)) (a + (bestK l a k : Int)) = false) : bestK l a (k + 1) = bestK l a k := by
  rw [bestK, if_neg (by omega), if_neg (by rw [h]; simp)]
theorem best_lt (l : List (Int × Int)) (a : Int) : ∀ k, 0 < k → bestK l a k < k := by
  intro k
  induction k with
  | zero => intro h; omega
  | succ k ih =>
    intro _
    rcases Nat.eq_zero_or_pos k with rfl | hk
    · rw [best_one]; omega
    · rcases h : abvB l (a + (k : Int)) (a + (bestK l a k : Int)) with _ | _
      · rw [best_no hk h]; have := ih hk; omega
      · rw [best_yes hk h]; omega
def allL (l : List (Int × Int)) (a : Int) (k : Nat) : Prop := ∀ j, j < k → loK l (a + (j : Int)) = true
theorem all_step {l : List (Int × Int)} {a : Int} {k : Nat} (h : allL l a k) (h1 : loK l (a + (k : Int)) = true) : allL l a (k + 1) := fun j hj => by
  rcases Nat.lt_or_ge j k with h2 | h2
  · exact h j h2
  · obtain rfl : j = k := by omega
    exact h1
def hlA (l : List (Int × Int)) (a b : Int) : Bool := (List.range (b - a + 1).toNat).all fun j : Nat => loK l (a + (j : Int))
def hlK (l : List (Int × Int)) (a b : Int) : Bool := (inB a 0 10000 && inB b 0 10000) && decide (a ≤ b) && hlA l a b
def hlT (l : List (Int × Int)) (a b : Int) : Int := a + (bestK l a (b - a + 1).toNat : Int)
def hlN (l : List (Int × Int)) (a b : Int) : Int := if hlK l a b then rlN l (hlT l a b) else 0
def hlD (l : List (Int × Int)) (a b : Int) : Int := if hlK l a b then (rlD l (hlT l a b) : Int) else 0
def HlPost (l : List (Int × Int)) (a b : Int) (w : World) (e : Ending) (w' : World) : Prop :=
  e = .returned (.tuple #[.int .i64 (hlN l a b), .int .i64 (hlD l a b), .bool (hlK l a b)]) ∧ Below w.heap.size w w'
theorem hl_no {l : List (Int × Int)} {a b : Int} {w w' : World} (h : hlK l a b = false) (hb : Below w.heap.size w w') : HlPost l a b w (.returned (.tuple #[.int .i64 0, .int .i64 0, .bool false])) w' :=
  ⟨by unfold hlN hlD; rw [h]; rfl, hb⟩
theorem hl_all {l : List (Int × Int)} {a b : Int} {k : Nat} (h1 : (inB a 0 10000 && inB b 0 10000) = true) (h2 : a ≤ b) (hk : a + (k : Int) = b + 1) (h : allL l a k) : hlK l a b = true ∧ hlT l a b = a + (bestK l a k : Int) := by
  have e : (b - a + 1).toNat = k := by omega
  refine ⟨?_, by unfold hlT; rw [e]⟩
  unfold hlK hlA
  rw [h1, decide_eq_true h2, e]
  simp only [Bool.true_and, List.all_eq_true, List.mem_range]
  exact h
theorem hl_bad {l : List (Int × Int)} {a b : Int} {k : Nat} (hk : a + (k : Int) ≤ b) (h : loK l (a + (k : Int)) = false) : hlK l a b = false := by
  have e : hlA l a b = false := by
    unfold hlA
    rw [List.all_eq_false]
    exact ⟨k, by simp; omega, by rw [h]; simp⟩
  unfold hlK; rw [e, Bool.and_false]
theorem hl_yes {l : List (Int × Int)} {a b : Int} {N D : Int} {w w' : World} (h : hlK l a b = true) (hN : rlN l (hlT l a b) = N) (hD : (rlD l (hlT l a b) : Int) = D) (hb : Below w.heap.size w w') : HlPost l a b w (.returned (.tuple #[.int .i64 N, .int .i64 D, .bool true])) w' :=
  ⟨by unfold hlN hlD; rw [h, if_pos rfl, if_pos rfl, hN, hD], hb⟩
theorem prod_bd {N : Int} {D : Nat} (h1 : -120000 ≤ N ∧ N ≤ 120000) (h2 : D ≤ 60) : -7200000 ≤ N * (D : Int) ∧ N * (D : Int) ≤ 7200000 := by
  have h3 : N.natAbs ≤ 120000 := by omega
  have h5 := Nat.mul_le_mul h3 h2
  have e : (N * (D : Int)).natAbs = N.natAbs * D := by rw [Int.natAbs_mul, Int.natAbs_natCast]
  rw [← e] at h5
  omega
theorem above_any (N : Int) (D : Nat) (M : Int) (E : Nat) (r : Bool) (hr : decide (M * D < N * E) = r) (w : World) (h1 : (1 ≤ D ∧ D ≤ 60) ∧ -120000 ≤ N ∧ N ≤ 120000) (h2 : (1 ≤ E ∧ E ≤ 60) ∧ -120000 ≤ M ∧ M ≤ 120000) :
    Calls Try.prog 115 #[.agg #[.int .i64 N, .int .i64 D], .agg #[.int .i64 M, .int .i64 E]] w fun e w' => e = .returned (.bool r) ∧ Below w.heap.size w w' := by
  have b1 := prod_bd (N := N) (D := E) h1.2 h2.1.2
  have b2 := prod_bd (N := M) (D := D) h2.2 h1.1.2
  obtain ⟨b11, b12⟩ := b1
  obtain ⟨b21, b22⟩ := b2
  have HX := Lib.hid (box2 (cs := #[.int .i64 N, .int .i64 D]) (T := 124) (ds := #[.int .i64 M, .int .i64 E]) (T' := 124) (Below.refl _ _) (w := w))
  by_cases hc : M * D < N * E
  · have H : Hid (r = true) := by unfold Hid; rw [← hr]; exact decide_eq_true hc
    clear hr h1 h2
    go_enter Try.func115, Try.ntmps115
    go_wp2_with fail
    go_ret
    exact ⟨ret_bool H.out.symm, HX.out.1⟩
  · have H : Hid (r = false) := by unfold Hid; rw [← hr]; exact decide_eq_false hc
    clear hr h1 h2
    go_enter Try.func115, Try.ntmps115
    go_wp2_with fail
    go_ret
    exact ⟨ret_bool H.out.symm, HX.out.1⟩

/-! ### spec.HighestLevel -/
def HlInv (l : List (Int × Int)) (a b : Int) (w : World) (p q r : Value) (wr : World) : Prop :=
  ∃ (k : Nat) (t N : Int) (D : Nat), t ≤ b + 1 ∧ a ≤ t ∧ Hid (t = a + (k : Int)) ∧ p = .int .i64 N ∧ q = .int .i64 D ∧ r = .int .i64 t ∧ (k = 0 ∧ N = 0 ∧ D = 0 ∨ 0 < k ∧ (1 ≤ D ∧ D ≤ 60) ∧ -120000 ≤ N ∧ N ≤ 120000) ∧
    Hid ((0 < k → N = lvN l (a + (bestK l a k : Int)) ∧ D = lvD l (a + (bestK l a k : Int))) ∧ allL l a k) ∧ Hid (Below w.heap.size w wr)
set_option maxRecDepth 20000 in
set_option maxHeartbeats 3200000 in
theorem highest_spec (A : Option Addr) (n c : Nat) (l : List (Int × Int)) (a b : Int) (w : World) (hs : Spots w w.heap.size A n l) (hm : n ≤ maxLen) :
    Calls Try.prog 49 #[.slice A n c, .int .i64 a, .int .i64 b] w (HlPost l a b w) := by
  have HS := Lib.hid hs
  clear hs
  rcases hp : spK l a b with _ | _
  · have HR : Hid (hlK l a b = false) := by
      unfold Hid
      rcases h : hlK l a b with _ | _
      · rfl
      · exfalso
        unfold hlK at h
        simp only [Bool.and_eq_true, decide_eq_true_eq] at h
        have h3 := h.2
        unfold hlA at h3
        rw [List.all_eq_true] at h3
        have h4 := h3 0 (by simp; omega)
        rw [show a + ((0 : Nat) : Int) = a by omega] at h4
        have h5 := (lo_parts h4).1
        unfold spK askK at hp
        rw [h5, h.1.1.1, h.1.1.2, decide_eq_true h.1.2] at hp
        cases hp
    have HP := Lib.hid hp
    clear hp
    go_enter Try.func49, Try.ntmps49
    go_wp2_with fail
    refine (span_spec _ _ _ l a b _ HP.out _ HS.out hm).mono ?_
    rintro e w1 ⟨rfl, hb⟩
    have HB := Lib.hid hb
    clear hb
    go_wp2_with fail
    go_ret3
    exact hl_no HR.out HB.out
  have HPK := Lib.hid hp
  have HP := Lib.hid (sp_parts hp)
  obtain ⟨hp1, hp2, hp3⟩ := HP.out.2
  have HIN : Hid ((inB a 0 10000 && inB b 0 10000) = true) := by unfold Hid; rw [inB_mk (by omega) (by omega), inB_mk (by omega) hp3]; rfl
  clear hp
  go_enter Try.func49, Try.ntmps49
  go_wp2_with fail
  refine (span_spec _ _ _ l a b _ HPK.out _ HS.out hm).mono ?_
  rintro e w1 ⟨rfl, hb⟩
  have HB0 := Lib.hid hb
  clear hb
  go_wp2_with fail
  go_loopw [9, 10, 11] (HlInv l a b w) (fun _ _ i _ => (b + 1 - intOf i).toNat)
  case atStart => exact ⟨0, a, 0, 0, by omega, Int.le_refl _, Lib.hid (by omega), rfl, rfl, rfl, .inl ⟨rfl, rfl, rfl⟩, Lib.hid ⟨fun h => absurd h (by omega), fun j h => absurd h (by omega)⟩, HB0⟩
  case round =>
    obtain ⟨k, t, N, D, hk, hat, hT, rfl, rfl, rfl, hbd, hI, hB⟩ := hrel
    have HSr := Lib.hid (spots_at HS.out hB.out)
    by_cases hlt : t ≤ b
    · have HA : Hid (askK l t = true) := by unfold Hid askK; rw [HP.out.1, inB_mk (by omega) (by omega)]; rfl
      have hlo := lo_of HP.out.1 (t := t) (by omega) (by omega)
      rcases hv : lvK l t with _ | _
      · have HQ : Hid (l4N l t = 0 ∧ l4D l t = 0 ∧ lvK l t = false) := by unfold Hid l4N l4D; rw [hv]; exact ⟨rfl, rfl, rfl⟩
        have HR : Hid (hlK l a b = false) := hl_bad (k := k) (by rw [← hT.out]; exact hlt) (by rw [← hT.out]; exact hlo.trans hv)
        clear hv hlo
        go_wp2_with fail
        refine (asked_at _ _ _ l _ _ _ _ HQ.out.1 HQ.out.2.1 HQ.out.2.2 _ HSr.out HA.out).mono ?_
        rintro e w2 ⟨rfl, hb⟩
        have HB2 := Lib.hid (bthen hB.out hb hB.out.size)
        clear hb
        go_wp2_with fail
        go_ret3
        exact hl_no HR.out HB2.out
      have HQ : Hid (l4N l t = lvN l t ∧ l4D l t = (lvD l t : Nat) ∧ lvK l t = true) := by unfold Hid l4N l4D; rw [hv]; exact ⟨rfl, rfl, rfl⟩
      have nbd := lv_bd HP.out.1 hv
      have HAL := Lib.hid (all_step hI.out.2 (by rw [← hT.out]; exact hlo.trans hv))
      clear hv hlo
      obtain ⟨N', hN'⟩ : ∃ N', N' = lvN l t := ⟨_, rfl⟩
      obtain ⟨D', hD'⟩ : ∃ D', D' = lvD l t := ⟨_, rfl⟩
      rw [← hN', ← hD'] at HQ nbd
      have HE := Lib.hid (And.intro hN' hD')
      clear hN' hD'
      rcases hbd with ⟨rfl, rfl, rfl⟩ | ⟨hkp, hbd⟩
      · have HI : Hid ((0 < 0 + 1 → N' = lvN l (a + (bestK l a (0 + 1) : Int)) ∧ D' = lvD l (a + (bestK l a (0 + 1) : Int))) ∧ allL l a (0 + 1)) := Lib.hid ⟨fun _ => by rw [best_one, ← hT.out]; exact HE.out, HAL.out⟩
        go_wp2_with fail
        refine (asked_at _ _ _ l _ _ _ _ HQ.out.1 HQ.out.2.1 HQ.out.2.2 _ HSr.out HA.out).mono ?_
        rintro e w2 ⟨rfl, hb⟩
        have HB2 := Lib.hid (bthen hB.out hb hB.out.size)
        clear hb
        go_wp2_with fail
        go_roundw
        case rel => exact ⟨0 + 1, t + 1, N', D', by omega, by omega, Lib.hid (by have := hT.out; omega), rfl, rfl, by go_num, .inr ⟨by omega, nbd⟩, HI, HB2⟩
        case measure => simp [intOf]; omega
      · have hn0 : ((D : Int) == 0) = false := beq_eq_false_iff_ne.2 (by omega)
        have b1 := prod_bd (N := N') (D := D) nbd.2 hbd.1.2
        have b2 := prod_bd (N := N) (D := D') hbd.2 nbd.1.2
        obtain ⟨b11, b12⟩ := b1
        obtain ⟨b21, b22⟩ := b2
        have HAB : Hid (abvB l (a + (k : Int)) (a + (bestK l a k : Int)) = decide (N * (D' : Int) < N' * (D : Int))) := by
          unfold Hid abvB
          rw [← hT.out, ← (hI.out.1 hkp).1, ← (hI.out.1 hkp).2, ← HE.out.1, ← HE.out.2]
        by_cases hc : N * (D' : Int) < N' * (D : Int)
        · have HI : Hid ((0 < k + 1 → N' = lvN l (a + (bestK l a (k + 1) : Int)) ∧ D' = lvD l (a + (bestK l a (k + 1) : Int))) ∧ allL l a (k + 1)) := Lib.hid ⟨fun _ => by rw [best_yes hkp (HAB.out.trans (decide_eq_true hc)), ← hT.out]; exact HE.out, HAL.out⟩
          go_wp2_with fail
          refine (asked_at _ _ _ l _ _ _ _ HQ.out.1 HQ.out.2.1 HQ.out.2.2 _ HSr.out HA.out).mono ?_
          rintro e w2 ⟨rfl, hb⟩
          have HB2 := Lib.hid (bthen hB.out hb hB.out.size)
          clear hb
          go_wp2_with fail
          go_roundw
          case rel => exact ⟨k + 1, t + 1, N', D', by omega, by omega, Lib.hid (by have := hT.out; omega), rfl, rfl, by go_num, .inr ⟨by omega, nbd⟩, HI, HB2⟩
          case measure => simp [intOf]; omega
        · have HI : Hid ((0 < k + 1 → N = lvN l (a + (bestK l a (k + 1) : Int)) ∧ D = lvD l (a + (bestK l a (k + 1) : Int))) ∧ allL l a (k + 1)) := Lib.hid ⟨fun _ => by rw [best_no hkp (HAB.out.trans (decide_eq_false hc))]; exact hI.out.1 hkp, HAL.out⟩
          go_wp2_with fail
          refine (asked_at _ _ _ l _ _ _ _ HQ.out.1 HQ.out.2.1 HQ.out.2.2 _ HSr.out HA.out).mono ?_
          rintro e w2 ⟨rfl, hb⟩
          have HB2 := Lib.hid (bthen hB.out hb hB.out.size)
          clear hb
          go_wp2_with fail
          go_roundw
          case rel => exact ⟨k + 1, t + 1, N, D, by omega, by omega, Lib.hid (by have := hT.out; omega), rfl, rfl, by go_num, .inr ⟨by omega, hbd⟩, HI, HB2⟩
          case measure => simp [intOf]; omega
    · have hke : a + (k : Int) = b + 1 := by have := hT.out; omega
      have hkp : 0 < k := by omega
      have hbd' : (1 ≤ D ∧ D ≤ 60) ∧ -120000 ≤ N ∧ N ≤ 120000 := by omega
      have HF := Lib.hid (hl_all HIN.out hp2 hke hI.out.2)
      have HG : Hid (rlN l (hlT l a b) = N.tdiv (gd N D : Nat) ∧ (rlD l (hlT l a b) : Int) = (D : Int) / (gd N D : Nat)) := by
        unfold Hid rlN rlD rdN
        rw [HF.out.2, ← (hI.out.1 hkp).1, ← (hI.out.1 hkp).2, rdD_cast]
        exact ⟨rfl, rfl⟩
      go_wp2_with fail
      refine (reduce_spec N D _ (by omega) (by omega) (by omega) (by omega)).mono ?_
      rintro e w3 ⟨rfl, hb⟩
      have HB3 := Lib.hid (bthen hB.out hb hB.out.size)
      clear hb
      go_wp2_with fail
      go_ret3
      exact hl_yes HF.out.1 HG.out.1 HG.out.2 HB3.out
end Go.Proofs.Ytdmnkmdlochogaa
