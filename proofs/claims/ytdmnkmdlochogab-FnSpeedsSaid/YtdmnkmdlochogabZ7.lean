/-
  The cast at a time and the nearest cast: contracts of CastAt, NearestCast of spec and impl, impl.squareOf over this translation. Conditions: stated at each theorem.
-/
import Derived.Test.YtdmnkmdlochogabZy
import Derived.Test.YtdmnkmdlochogabZw
namespace Go.Proofs.Ytdmnkmdlochogab
open Go.RowKit
set_option linter.unusedVariables false

theorem ca_ex {L : List KC} (h : Good7 L) (t : Int) : ∃ r : Nat, r ≤ L.length ∧ (∀ i, i < r → decide (t < (kcAt L i).tm) = false) ∧ (∀ i, r ≤ i → i < L.length → decide (t < (kcAt L i).tm) = true) ∧ (r = 0 → caId L t = 0) ∧ (∀ k, r = k + 1 → caId L t = (kcAt L k).id) := by
  have key : ∀ n, n ≤ L.length → ∃ r, r ≤ n ∧ (∀ i, i < r → (kcAt L i).tm ≤ t) ∧ (∀ i, r ≤ i → i < n → t < (kcAt L i).tm) := by
    intro n
    induction n with
    | zero => exact fun _ => ⟨0, Nat.le_refl _, fun i hi => absurd hi (by omega), fun i _ hi => absurd hi (by omega)⟩
    | succ n ih =>
      intro hn
      by_cases hc : (kcAt L n).tm ≤ t
      · refine ⟨n + 1, Nat.le_refl _, fun i hi => ?_, fun i a b => by omega⟩
        rcases Nat.lt_or_ge i n with h1 | h1
        · have := h.lt h1 (by omega); omega
        · obtain rfl : i = n := by omega
          exact hc
      · obtain ⟨r, h1, h2, h3⟩ := ih (by omega)
        refine ⟨r, by omega, h2, fun i a b => ?_⟩
        rcases Nat.lt_or_ge i n with c | c
        · exact h3 i a c
        · obtain rfl : i = n := by omega
          omega
  obtain ⟨r, h1, h2, h3⟩ := key L.length (Nat.le_refl _)
  refine ⟨r, h1, fun i hi => decide_eq_false (by have := h2 i hi; omega), fun i a b => decide_eq_true (h3 i a b), fun e => ?_, fun k e => ?_⟩
  · subst e
    exact caK_none (fun j hj => h3 j (by omega) hj)
  · subst e
    exact caId_hit h (by omega) (h2 k (by omega)) (fun hk => h3 (k + 1) (by omega) hk)
def ctV (L : List KC) (t : Int) : Int := if (castsB L && inB t 0 10000) = true then caId L t else 0
def IdPost7 (v : Int) (w : World) (e : Ending) (w' : World) : Prop := e = .returned (.tuple #[.int .i64 v, .bool (decide (0 < v))]) ∧ Below w.heap.size w w'
theorem ret_v0 {v : Int} (h : v = 0) : Ending.returned (.tuple #[.int .i64 0, .bool false]) = .returned (.tuple #[.int .i64 v, .bool (decide (0 < v))]) := by subst h; rfl
theorem ret_v1 {v a : Int} (h : v = a) (ha : 0 < a) : Ending.returned (.tuple #[.int .i64 a, .bool true]) = .returned (.tuple #[.int .i64 v, .bool (decide (0 < v))]) := by subst h; rw [decide_eq_true ha]
theorem ret_v2 {v a : Int} (h : v = a) : Ending.returned (.tuple #[.int .i64 a, .bool (decide (0 < a))]) = .returned (.tuple #[.int .i64 v, .bool (decide (0 < v))]) := by subst h; rfl
theorem ct_no1 {L : List KC} {t : Int} (h : castsB L = false) : ctV L t = 0 := by unfold ctV; rw [h]; rfl
theorem ct_no2 {L : List KC} {t : Int} (h : inB t 0 10000 = false) : ctV L t = 0 := by unfold ctV; rw [h, Bool.and_false]; rfl
theorem ct_yes {L : List KC} {t : Int} (h : castsB L = true) (k : inB t 0 10000 = true) : ctV L t = caId L t := by unfold ctV; rw [h, k]; rfl
set_option maxHeartbeats 1600000 in
theorem castAt_spec (A : Option Addr) (n c : Nat) (L : List KC) (t : Int) (w : World) (hs : Casts w w.heap.size A n L) (hm : n ≤ maxLen) :
    Calls Try.prog 68 #[.slice A n c, .int .i64 t] w (IdPost7 (ctV L t) w) := by
  have HS := Lib.hid hs
  clear hs
  rcases hc : castsB L with _ | _
  · have HC := Lib.hid hc
    have HR := Lib.hid (ct_no1 (t := t) hc)
    clear hc
    go_enter Try.func68, Try.ntmps68
    go_wp2_with fail
    refine (goodK_v A n c L _ HC.out _ HS.out hm).mono ?_
    rintro e w1 ⟨rfl, hb⟩
    have HB := Lib.hid hb
    clear hb
    go_wp2_with fail
    go_ret2
    exact ⟨ret_v0 HR.out, HB.out⟩
  rcases ht : inB t 0 10000 with _ | _
  · have HC := Lib.hid hc
    have HT := Lib.hid ht
    have HR := Lib.hid (ct_no2 (L := L) ht)
    clear hc ht
    go_enter Try.func68, Try.ntmps68
    go_wp2_with fail
    refine (goodK_v A n c L _ HC.out _ HS.out hm).mono ?_
    rintro e w1 ⟨rfl, hb⟩
    have HB := Lib.hid hb
    clear hb
    go_wp2_with fail
    refine (tmK_spec _ _ HT.out _).mono ?_
    rintro e w' ⟨rfl, rfl⟩
    go_wp2_with fail
    go_ret2
    exact ⟨ret_v0 HR.out, HB.out⟩
  have HC := Lib.hid hc
  have HT := Lib.hid ht
  have HR := Lib.hid (ct_yes hc ht)
  have hg := good7_of hc
  have h6 := hg.max
  clear hc ht
  obtain rfl := HS.out.1
  go_enter Try.func68, Try.ntmps68
  go_wp2_with fail
  refine (goodK_v A _ c L _ HC.out _ HS.out hm).mono ?_
  rintro e w1 ⟨rfl, hb⟩
  have HB := Lib.hid hb
  have HS1 := Lib.hid (casts_at HS.out hb)
  clear hb
  go_wp2_with fail
  refine (tmK_spec _ _ HT.out _).mono ?_
  rintro e w' ⟨rfl, rfl⟩
  go_wp2_with fail
  go_loop [6, 7] (fun s i => ∃ k : Nat, k ≤ L.length ∧ i = .int .i64 k ∧ s = .int .i64 (caK L t k)) (fun _ i => L.length - (intOf i).toNat)
  case atStart => exact ⟨0, Nat.zero_le _, rfl, rfl⟩
  case round =>
    obtain ⟨k, hk, rfl, rfl⟩ := hrel
    by_cases hlt : k < L.length
    · obtain ⟨b, o, id, tm, x, y, l, A', c', rfl, hbl, hL, c0, c1, c2, c3, c4, hsp, hl⟩ := HS1.out.2 k hlt
      by_cases hd : tm ≤ t
      · have HQ : Hid (caK L t (k + 1) = id) := by unfold Hid; rw [caK, kcAt_at hL, if_pos hd]
        clear hL hsp
        go_wp2_with fail
        go_round
        case rel => exact ⟨k + 1, by omega, by go_num, by rw [HQ.out]⟩
        case measure => simp [intOf]; omega
      · have HQ : Hid (caK L t (k + 1) = caK L t k) := by unfold Hid; rw [caK, kcAt_at hL, if_neg hd]
        clear hL hsp
        go_wp2_with fail
        go_round
        case rel => exact ⟨k + 1, by omega, by go_num, by rw [HQ.out]⟩
        case measure => simp [intOf]; omega
    · obtain rfl : k = L.length := by omega
      have HV := Lib.hid (show ctV L t = caK L t L.length from HR.out)
      obtain ⟨S, hS⟩ : ∃ S, caK L t L.length = S := ⟨_, rfl⟩
      rw [hS] at HV ⊢
      clear hS
      go_wp2_with fail
      go_ret2
      exact ⟨ret_v2 HV.out, HB.out⟩
set_option maxHeartbeats 1600000 in
theorem castAt_impl (A : Option Addr) (n c : Nat) (L : List KC) (t : Int) (w : World) (hs : Casts w w.heap.size A n L) (hm : n ≤ maxLen) (hcap : n ≤ c) :
    Calls Try.prog 67 #[.slice A n c, .int .i64 t] w (IdPost7 (ctV L t) w) := by
  obtain rfl := hs.1
  have HX0 := Lib.hid (box2 (w := w) (cs := #[.slice A L.length c]) (ds := #[.int .i64 t]) (T := 72) (T' := 3) (Below.refl _ _))
  have HS := Lib.hid (casts_at hs HX0.out.1)
  clear hs
  rcases hc : castsB L with _ | _
  · have HC := Lib.hid hc
    have HR := Lib.hid (ct_no1 (t := t) hc)
    clear hc
    go_enter Try.func67, Try.ntmps67
    go_wp2_with fail
    refine (areK_v A _ c L _ HC.out _ HS.out hm hcap).mono ?_
    rintro e w1 ⟨rfl, hb⟩
    have HX := Lib.hid (box2 hb)
    clear hb
    go_wp2_with fail
    go_ret2
    exact ⟨ret_v0 HR.out, HX.out.1⟩
  rcases ht : inB t 0 10000 with _ | _
  · have HC := Lib.hid hc
    have HT := Lib.hid ht
    have HR := Lib.hid (ct_no2 (L := L) ht)
    clear hc ht
    go_enter Try.func67, Try.ntmps67
    go_wp2_with fail
    refine (areK_v A _ c L _ HC.out _ HS.out hm hcap).mono ?_
    rintro e w1 ⟨rfl, hb⟩
    have HX := Lib.hid (box2 hb)
    clear hb
    have d0 := HX.out.2.2.at_ 0 _ rfl
    go_wp2_with fail
    refine (tmK_impl _ _ HT.out _).mono ?_
    rintro e w' ⟨rfl, rfl⟩
    go_wp2_with fail
    go_ret2
    exact ⟨ret_v0 HR.out, HX.out.1⟩
  have HC := Lib.hid hc
  have HT := Lib.hid ht
  have HR := Lib.hid (ct_yes hc ht)
  have hg := good7_of hc
  have h6 := hg.max
  obtain ⟨r, hr, p1, p2, p3, p4⟩ := ca_ex hg t
  have HP := Lib.hid (And.intro p1 p2)
  clear hc ht p1 p2
  go_enter Try.func67, Try.ntmps67
  go_wp2_with fail
  refine (areK_v A _ c L _ HC.out _ HS.out hm hcap).mono ?_
  rintro e w1 ⟨rfl, hb⟩
  have HX := Lib.hid (box2 hb)
  have HS1 := Lib.hid (casts_at HS.out hb)
  clear hb
  have c0 := HX.out.2.1.at_ 0 _ rfl
  have d0 := HX.out.2.2.at_ 0 _ rfl
  go_wp2_with fail
  refine (tmK_impl _ _ HT.out _).mono ?_
  rintro e w' ⟨rfl, rfl⟩
  go_wp2_with fail
  refine (search_ca w.heap.size (w.heap.size + 1) L.length r (fun i => decide (t < (kcAt L i).tm)) w1 (by omega) hr HP.out.1 HP.out.2 (fun W i hb hi =>
    caTest_any _ _ A c i L t W ((hb.cell (p := ⟨w.heap.size, 0, none⟩) HX.out.2.1.1).trans (HX.out.2.1.at_ 0 _ rfl)) ((hb.cell (p := ⟨w.heap.size + 1, 0, none⟩) HX.out.2.2.1).trans (HX.out.2.2.at_ 0 _ rfl)) (casts_at HS1.out hb) hi h6)).mono ?_
  rintro e w2 ⟨rfl, hb⟩
  have HB2 := Lib.hid (bthen HX.out.1 hb HX.out.1.size)
  have HS2 := Lib.hid (casts_at HS1.out hb)
  have HX2 := Lib.hid (HX.out.2.1.next hb)
  clear hb c0 d0
  have c0 := HX2.out.at_ 0 _ rfl
  rcases r with _ | k
  · have HV := Lib.hid (HR.out.trans (p3 rfl))
    clear p3 p4
    go_wp2_with fail
    go_ret2
    exact ⟨ret_v0 HV.out, HB2.out⟩
  · obtain ⟨b, o, id, tm, x, y, l, A', c', rfl, hbl, hL, e0, e1, e2, e3, e4, hsp, hl⟩ := HS2.out.2 k (by omega)
    have hid := castB_id (hg.one k (by omega))
    rw [kcAt_at hL] at hid
    have HV := Lib.hid (HR.out.trans ((p4 k rfl).trans (by rw [kcAt_at hL])))
    have hk0 : ((k : Int) + 1 == 0) = false := beq_eq_false_iff_ne.2 (by omega)
    clear p3 p4 hL hsp
    go_wp2_with fail
    go_ret2
    exact ⟨ret_v1 HV.out (by omega), HB2.out⟩
/-! ### NearestCast -/
theorem within_sh (n t w : Int) : inB n (t - w) (t + w) = inB (n - t) (-w) w := decide_eq_decide.2 (by omega)
theorem farB_sym (v : KC) (x y : Int) : farB v x y = (x - v.x) * (x - v.x) + (y - v.y) * (y - v.y) := by
  unfold farB
  rw [← Int.neg_mul_neg (v.x - x), ← Int.neg_mul_neg (v.y - y), Int.neg_sub, Int.neg_sub]
set_option maxHeartbeats 800000 in
theorem sqK_impl (ax ay bx by_ : Int) (v : Int) (hv : (bx - ax) * (bx - ax) + (by_ - ay) * (by_ - ay) = v) (w : World) (h1 : 0 ≤ ax ∧ ax ≤ 1000) (h2 : 0 ≤ ay ∧ ay ≤ 1000) (h3 : 0 ≤ bx ∧ bx ≤ 1000) (h4 : 0 ≤ by_ ∧ by_ ≤ 1000) :
    Calls Try.prog 146 #[.agg #[.int .i64 ax, .int .i64 ay], .agg #[.int .i64 bx, .int .i64 by_]] w fun e w' => e = .returned (.int .i64 v) ∧ Below w.heap.size w w' := by
  obtain ⟨h1, h1'⟩ := h1
  obtain ⟨h2, h2'⟩ := h2
  obtain ⟨h3, h3'⟩ := h3
  obtain ⟨h4, h4'⟩ := h4
  have q1 := sq_bd (a := bx - ax) (by omega) (by omega)
  have q2 := sq_bd (a := by_ - ay) (by omega) (by omega)
  obtain ⟨q1, q1'⟩ := q1
  obtain ⟨q2, q2'⟩ := q2
  have HV := Lib.hid hv
  clear hv
  obtain ⟨W0, hW0⟩ : ∃ W0, W0 = (w.alloc (.cells #[.int .i64 ax, .int .i64 ay] 61)).alloc (.cells #[.int .i64 bx, .int .i64 by_] 61) := ⟨_, rfl⟩
  have HW : Hid (Below w.heap.size w W0 ∧ Has W0 w.heap.size [.int .i64 ax, .int .i64 ay] ∧ Has W0 (w.heap.size + 1) [.int .i64 bx, .int .i64 by_]) := by rw [hW0]; exact box2 (Below.refl _ _)
  have HE := Lib.hid hW0
  clear hW0
  have a0 := HW.out.2.1.at_ 0 _ rfl
  have a1 := HW.out.2.1.at_ 1 _ rfl
  have b0 := HW.out.2.2.at_ 0 _ rfl
  have b1 := HW.out.2.2.at_ 1 _ rfl
  go_enter Try.func146, Try.ntmps146
  go_wp2_with fail
  rw [← HE.out]
  have lc0 := lcell (a0)
  have lc1 := lcell (a1)
  have lc2 := lcell (b0)
  have lc3 := lcell (b1)
  refine region_later (W := W0) (by kernel_rfl) (by kernel_rfl) (Below.refl _ _) ?_
  repeat (go_big_quiet_step (fail))
  refine wpQuiet_nil ?_
  intro W1 hW1
  have HL : Hid (Below W0.heap.size W0 W1) := by obtain ⟨x, rfl⟩ := hW1; exact Lib.hid x.below
  clear hW1 lc0 lc1 lc2 lc3
  have HT := Lib.hid (bthen HW.out.1 HL.out HW.out.1.size)
  clear a0 a1 b0 b1
  go_wp2_with fail
  go_ret
  exact ⟨ret_int HV.out, HT.out⟩
def neOk (L : List KC) (x y t w : Int) : Bool := castsB L && spB x y && inB t 0 10000 && inB w 0 10000
def neV (L : List KC) (x y t w : Int) : Int := if neOk L x y t w = true then neId L x y t w else 0
theorem ne_no {L : List KC} {x y t w : Int} (h : neOk L x y t w = false) : neV L x y t w = 0 := by unfold neV; rw [h]; rfl
theorem ne_yes {L : List KC} {x y t w : Int} (h : neOk L x y t w = true) : neV L x y t w = neId L x y t w := by unfold neV; rw [h]; rfl
set_option maxHeartbeats 3200000 in
theorem near_spec (A : Option Addr) (n c : Nat) (L : List KC) (x y t v : Int) (w : World) (hs : Casts w w.heap.size A n L) (hm : n ≤ maxLen) :
    Calls Try.prog 71 #[.slice A n c, .agg #[.int .i64 x, .int .i64 y], .int .i64 t, .int .i64 v] w (IdPost7 (neV L x y t v) w) := by
  obtain rfl := hs.1
  have HS := Lib.hid hs
  clear hs
  rcases h0 : castsB L with _ | _
  · have HC := Lib.hid h0
    have HR := Lib.hid (ne_no (L := L) (x := x) (y := y) (t := t) (w := v) (by unfold neOk; rw [h0]; simp))
    clear h0
    go_enter Try.func71, Try.ntmps71
    go_wp2_with fail
    refine (goodK_v A _ c L _ HC.out _ (casts_at HS.out (box1 (Below.refl _ _)).1) hm).mono ?_
    rintro e w1 ⟨rfl, hb⟩
    have HX := Lib.hid (box1 hb)
    clear hb
    have a0 := HX.out.2.at_ 0 _ rfl
    have a1 := HX.out.2.at_ 1 _ rfl
    go_wp2_with fail
    go_ret2
    exact ⟨ret_v0 HR.out, HX.out.1⟩
  have HC := Lib.hid h0
  rcases h1 : spB x y with _ | _
  · have HP := Lib.hid h1
    have HR := Lib.hid (ne_no (L := L) (x := x) (y := y) (t := t) (w := v) (by unfold neOk; rw [h1]; simp))
    clear h1
    go_enter Try.func71, Try.ntmps71
    go_wp2_with fail
    refine (goodK_v A _ c L _ HC.out _ (casts_at HS.out (box1 (Below.refl _ _)).1) hm).mono ?_
    rintro e w1 ⟨rfl, hb⟩
    have HX := Lib.hid (box1 hb)
    clear hb
    have a0 := HX.out.2.at_ 0 _ rfl
    have a1 := HX.out.2.at_ 1 _ rfl
    go_wp2_with fail
    refine (spotK_spec _ _ _ HP.out _).mono ?_
    rintro e w2 ⟨rfl, hb⟩
    have HB2 := Lib.hid (bthen HX.out.1 hb HX.out.1.size)
    have HX2 := Lib.hid (HX.out.2.next hb)
    clear hb a0 a1
    go_wp2_with fail
    go_ret2
    exact ⟨ret_v0 HR.out, HB2.out⟩
  have HP := Lib.hid h1
  rcases h2 : inB t 0 10000 with _ | _
  · have HT := Lib.hid h2
    have HR := Lib.hid (ne_no (L := L) (x := x) (y := y) (t := t) (w := v) (by unfold neOk; rw [h2]; simp))
    clear h2
    go_enter Try.func71, Try.ntmps71
    go_wp2_with fail
    refine (goodK_v A _ c L _ HC.out _ (casts_at HS.out (box1 (Below.refl _ _)).1) hm).mono ?_
    rintro e w1 ⟨rfl, hb⟩
    have HX := Lib.hid (box1 hb)
    clear hb
    have a0 := HX.out.2.at_ 0 _ rfl
    have a1 := HX.out.2.at_ 1 _ rfl
    go_wp2_with fail
    refine (spotK_spec _ _ _ HP.out _).mono ?_
    rintro e w2 ⟨rfl, hb⟩
    have HB2 := Lib.hid (bthen HX.out.1 hb HX.out.1.size)
    have HX2 := Lib.hid (HX.out.2.next hb)
    clear hb a0 a1
    go_wp2_with fail
    refine (tmK_spec _ _ HT.out _).mono ?_
    rintro e w' ⟨rfl, rfl⟩
    go_wp2_with fail
    go_ret2
    exact ⟨ret_v0 HR.out, HB2.out⟩
  have HT := Lib.hid h2
  rcases h3 : inB v 0 10000 with _ | _
  · have HW := Lib.hid h3
    have HR := Lib.hid (ne_no (L := L) (x := x) (y := y) (t := t) (w := v) (by unfold neOk; rw [h3]; simp))
    clear h3
    go_enter Try.func71, Try.ntmps71
    go_wp2_with fail
    refine (goodK_v A _ c L _ HC.out _ (casts_at HS.out (box1 (Below.refl _ _)).1) hm).mono ?_
    rintro e w1 ⟨rfl, hb⟩
    have HX := Lib.hid (box1 hb)
    clear hb
    have a0 := HX.out.2.at_ 0 _ rfl
    have a1 := HX.out.2.at_ 1 _ rfl
    go_wp2_with fail
    refine (spotK_spec _ _ _ HP.out _).mono ?_
    rintro e w2 ⟨rfl, hb⟩
    have HB2 := Lib.hid (bthen HX.out.1 hb HX.out.1.size)
    have HX2 := Lib.hid (HX.out.2.next hb)
    clear hb a0 a1
    go_wp2_with fail
    refine (tmK_spec _ _ HT.out _).mono ?_
    rintro e w' ⟨rfl, rfl⟩
    go_wp2_with fail
    refine (l1In_v _ _ _ _ HW.out _).mono ?_
    rintro e w' ⟨rfl, rfl⟩
    go_wp2_with fail
    go_ret2
    exact ⟨ret_v0 HR.out, HB2.out⟩
  have HW := Lib.hid h3
  have HR := Lib.hid (ne_yes (L := L) (x := x) (y := y) (t := t) (w := v) (by unfold neOk; rw [h0, h1, h2, h3]; rfl))
  have hg := good7_of h0
  have h6 := hg.max
  have hxy := spB_yes h1
  have ht := inB_yes h2
  have hv := inB_yes h3
  obtain ⟨hx, hy⟩ := hxy
  obtain ⟨ht1, ht2⟩ := ht
  obtain ⟨hv1, hv2⟩ := hv
  clear h0 h1 h2 h3
  go_enter Try.func71, Try.ntmps71
  go_wp2_with fail
  refine (goodK_v A _ c L _ HC.out _ (casts_at HS.out (box1 (Below.refl _ _)).1) hm).mono ?_
  rintro e w1 ⟨rfl, hb⟩
  have HX := Lib.hid (box1 hb)
  clear hb
  have a0 := HX.out.2.at_ 0 _ rfl
  have a1 := HX.out.2.at_ 1 _ rfl
  go_wp2_with fail
  refine (spotK_spec _ _ _ HP.out _).mono ?_
  rintro e w2 ⟨rfl, hb⟩
  have HB2 := Lib.hid (bthen HX.out.1 hb HX.out.1.size)
  have HX2 := Lib.hid (HX.out.2.next hb)
  clear hb a0 a1
  go_wp2_with fail
  refine (tmK_spec _ _ HT.out _).mono ?_
  rintro e w' ⟨rfl, rfl⟩
  go_wp2_with fail
  refine (l1In_v _ _ _ _ HW.out _).mono ?_
  rintro e w' ⟨rfl, rfl⟩
  go_wp2_with fail
  go_loopw [10, 11, 12] (fun a b i wr => ∃ (k : Nat) (p q : Int), k ≤ L.length ∧ i = .int .i64 k ∧ neK L x y t v k = (p, q) ∧ a = .int .i64 p ∧ b = .int .i64 q ∧ Hid (Below w2.heap.size w2 wr)) (fun _ _ i _ => L.length - (intOf i).toNat)
  case atStart => exact ⟨0, 0, -1, Nat.zero_le _, rfl, rfl, rfl, rfl, Lib.hid (Below.refl _ _)⟩
  case round =>
    obtain ⟨k, p, q, hk, rfl, hN, rfl, rfl, hB⟩ := hrel
    have HBW := Lib.hid (bthen HB2.out hB.out HB2.out.size)
    by_cases hlt : k < L.length
    · have HSk := Lib.hid (casts_at HS.out (bthen HB2.out hB.out HB2.out.size))
      obtain ⟨b, o, id, tm, x1, y1, l, A1, c1, rfl, hbl, hL, c0, c1x, c2, c3, c4, hsp, hl⟩ := HSk.out.2 k hlt
      have hcb := hg.one k hlt
      have hat := castB_at hcb
      have htm := castB_tm hcb
      have hid := castB_id hcb
      have hfb := farB_bd hcb hx hy
      rw [kcAt_at hL] at hat htm hid hfb
      simp only at hat htm hid
      obtain ⟨hid1, hid2⟩ := hid
      obtain ⟨htm1, htm2⟩ := htm
      obtain ⟨hfb1, hfb2⟩ := hfb
      obtain ⟨F, hF⟩ : ∃ F, farB ⟨id, tm, x1, y1, l⟩ x y = F := ⟨_, rfl⟩
      rw [hF] at hfb1 hfb2
      obtain ⟨⟨hat1, hat2⟩, hat3, hat4⟩ := hat
      have hbd := neK_bd hg hx hy hk (t := t) (w := v)
      rw [hN] at hbd
      simp only at hbd
      have HA2 := Lib.hid (HX2.out.next hB.out)
      have a0 := HA2.out.at_ 0 _ rfl
      have a1 := HA2.out.at_ 1 _ rfl
      have sq1 := sq_bd (a := x1 - x) (by omega) (by omega)
      have sq2 := sq_bd (a := y1 - y) (by omega) (by omega)
      obtain ⟨sq1, sq1x⟩ := sq1
      obtain ⟨sq2, sq2x⟩ := sq2
      have HF : Hid ((x1 - x) * (x1 - x) + (y1 - y) * (y1 - y) = F) := hF
      have HK := Lib.hid hL
      have HNN := Lib.hid hN
      have HKF : Hid (farB (kcAt L k) x y = F ∧ (kcAt L k).tm = tm ∧ (kcAt L k).id = id) := by unfold Hid; rw [kcAt_at hL]; exact ⟨hF, rfl, rfl⟩
      clear hL hsp hF hN hcb
      obtain ⟨W1, rfl⟩ : ∃ W : World, W = wr := ⟨_, rfl⟩
      rcases hin : inB (tm - t) (-v) v with _ | _
      · have HI := Lib.hid hin
        have HN2 : Hid (neK L x y t v (k + 1) = (p, q)) := by unfold Hid; rw [neK_out (by rw [HKF.out.2.1]; exact hin)]; exact HNN.out
        clear hin
        go_wp2_with fail
        have lc0 := lcell (a0)
        have lc1 := lcell (a1)
        have lc2 := lcell (c2)
        have lc3 := lcell (c3)
        refine region_later (W := W1) (by kernel_rfl) (by kernel_rfl) (Below.refl _ _) ?_
        repeat (go_big_quiet_step (fail))
        refine wpQuiet_nil ?_
        intro W2 hW1
        have HL : Hid (Below W1.heap.size W1 W2) := by obtain ⟨x, rfl⟩ := hW1; exact Lib.hid x.below
        clear hW1 lc0 lc1 lc2 lc3
        have HT2 := Lib.hid (bthen hB.out HL.out hB.out.size)
        have c0' := cell_next HL.out c0
        have c1x' := cell_next HL.out c1x
        clear a0 a1 c0 c1x c2 c3 c4
        go_wp2_with fail
        try rw [HF.out]
        refine (l1In_v _ _ _ _ HI.out _).mono ?_
        rintro e w' ⟨rfl, rfl⟩
        go_wp2_with fail
        go_roundw
        case rel => exact ⟨k + 1, _, _, by omega, by go_num, HN2.out, by first | rfl | (rw [HF.out]), by first | rfl | (rw [HF.out]), HT2⟩
        case measure => simp [intOf]; omega
      have HI := Lib.hid hin
      by_cases hq0 : q < 0
      · have HN2 : Hid (neK L x y t v (k + 1) = (id, F)) := by unfold Hid; rw [neK_yes (by rw [HKF.out.2.1]; exact hin) (.inl (by rw [HNN.out]; exact hq0)), HKF.out.1, HKF.out.2.2]
        clear hin
        have hd1 : decide (q < 0) = true := decide_eq_true hq0
        go_wp2_with fail
        have lc0 := lcell (a0)
        have lc1 := lcell (a1)
        have lc2 := lcell (c2)
        have lc3 := lcell (c3)
        refine region_later (W := W1) (by kernel_rfl) (by kernel_rfl) (Below.refl _ _) ?_
        repeat (go_big_quiet_step (fail))
        refine wpQuiet_nil ?_
        intro W2 hW1
        have HL : Hid (Below W1.heap.size W1 W2) := by obtain ⟨x, rfl⟩ := hW1; exact Lib.hid x.below
        clear hW1 lc0 lc1 lc2 lc3
        have HT2 := Lib.hid (bthen hB.out HL.out hB.out.size)
        have c0' := cell_next HL.out c0
        have c1x' := cell_next HL.out c1x
        clear a0 a1 c0 c1x c2 c3 c4
        go_wp2_with fail
        try rw [HF.out]
        refine (l1In_v _ _ _ _ HI.out _).mono ?_
        rintro e w' ⟨rfl, rfl⟩
        go_wp2_with fail
        go_roundw
        case rel => exact ⟨k + 1, _, _, by omega, by go_num, HN2.out, by first | rfl | (rw [HF.out]), by first | rfl | (rw [HF.out]), HT2⟩
        case measure => simp [intOf]; omega
      by_cases hfq : F < q
      · have HN2 : Hid (neK L x y t v (k + 1) = (id, F)) := by unfold Hid; rw [neK_yes (by rw [HKF.out.2.1]; exact hin) (.inr (by rw [HNN.out, HKF.out.1]; exact hfq)), HKF.out.1, HKF.out.2.2]
        clear hin
        have hd1 : decide (q < 0) = false := decide_eq_false hq0
        have hd2 : decide ((x1 - x) * (x1 - x) + (y1 - y) * (y1 - y) < q) = true := by rw [HF.out]; exact decide_eq_true hfq
        go_wp2_with fail
        have lc0 := lcell (a0)
        have lc1 := lcell (a1)
        have lc2 := lcell (c2)
        have lc3 := lcell (c3)
        refine region_later (W := W1) (by kernel_rfl) (by kernel_rfl) (Below.refl _ _) ?_
        repeat (go_big_quiet_step (fail))
        refine wpQuiet_nil ?_
        intro W2 hW1
        have HL : Hid (Below W1.heap.size W1 W2) := by obtain ⟨x, rfl⟩ := hW1; exact Lib.hid x.below
        clear hW1 lc0 lc1 lc2 lc3
        have HT2 := Lib.hid (bthen hB.out HL.out hB.out.size)
        have c0' := cell_next HL.out c0
        have c1x' := cell_next HL.out c1x
        clear a0 a1 c0 c1x c2 c3 c4
        go_wp2_with fail
        try rw [HF.out]
        refine (l1In_v _ _ _ _ HI.out _).mono ?_
        rintro e w' ⟨rfl, rfl⟩
        go_wp2_with fail
        go_roundw
        case rel => exact ⟨k + 1, _, _, by omega, by go_num, HN2.out, by first | rfl | (rw [HF.out]), by first | rfl | (rw [HF.out]), HT2⟩
        case measure => simp [intOf]; omega
      · have HN2 : Hid (neK L x y t v (k + 1) = (p, q)) := by unfold Hid; rw [neK_no (by rw [HNN.out]; exact hq0) (by rw [HNN.out, HKF.out.1]; exact hfq)]; exact HNN.out
        clear hin
        have hd1 : decide (q < 0) = false := decide_eq_false hq0
        have hd2 : decide ((x1 - x) * (x1 - x) + (y1 - y) * (y1 - y) < q) = false := by rw [HF.out]; exact decide_eq_false hfq
        go_wp2_with fail
        have lc0 := lcell (a0)
        have lc1 := lcell (a1)
        have lc2 := lcell (c2)
        have lc3 := lcell (c3)
        refine region_later (W := W1) (by kernel_rfl) (by kernel_rfl) (Below.refl _ _) ?_
        repeat (go_big_quiet_step (fail))
        refine wpQuiet_nil ?_
        intro W2 hW1
        have HL : Hid (Below W1.heap.size W1 W2) := by obtain ⟨x, rfl⟩ := hW1; exact Lib.hid x.below
        clear hW1 lc0 lc1 lc2 lc3
        have HT2 := Lib.hid (bthen hB.out HL.out hB.out.size)
        have c0' := cell_next HL.out c0
        have c1x' := cell_next HL.out c1x
        clear a0 a1 c0 c1x c2 c3 c4
        go_wp2_with fail
        try rw [HF.out]
        refine (l1In_v _ _ _ _ HI.out _).mono ?_
        rintro e w' ⟨rfl, rfl⟩
        go_wp2_with fail
        go_roundw
        case rel => exact ⟨k + 1, _, _, by omega, by go_num, HN2.out, by first | rfl | (rw [HF.out]), by first | rfl | (rw [HF.out]), HT2⟩
        case measure => simp [intOf]; omega
    · obtain rfl : k = L.length := by omega
      have HV : Hid (neV L x y t v = p) := by unfold Hid; rw [HR.out, neId, hN]
      go_wp2_with fail
      go_ret2
      exact ⟨ret_v2 HV.out, HBW.out⟩
set_option maxHeartbeats 3200000 in
theorem near_impl (A : Option Addr) (n c : Nat) (L : List KC) (x y t v : Int) (w : World) (hs : Casts w w.heap.size A n L) (hm : n ≤ maxLen) (hcap : n ≤ c) :
    Calls Try.prog 70 #[.slice A n c, .agg #[.int .i64 x, .int .i64 y], .int .i64 t, .int .i64 v] w (IdPost7 (neV L x y t v) w) := by
  obtain rfl := hs.1
  have HS := Lib.hid hs
  clear hs
  rcases h0 : castsB L with _ | _
  · have HC := Lib.hid h0
    have HR := Lib.hid (ne_no (L := L) (x := x) (y := y) (t := t) (w := v) (by unfold neOk; rw [h0]; simp))
    clear h0
    go_enter Try.func70, Try.ntmps70
    go_wp2_with fail
    refine (areK_v A _ c L _ HC.out _ (casts_at HS.out (box1 (Below.refl _ _)).1) hm hcap).mono ?_
    rintro e w1 ⟨rfl, hb⟩
    have HX := Lib.hid (box1 hb)
    clear hb
    have a0 := HX.out.2.at_ 0 _ rfl
    have a1 := HX.out.2.at_ 1 _ rfl
    go_wp2_with fail
    go_ret2
    exact ⟨ret_v0 HR.out, HX.out.1⟩
  have HC := Lib.hid h0
  rcases h1 : spB x y with _ | _
  · have HP := Lib.hid h1
    have HR := Lib.hid (ne_no (L := L) (x := x) (y := y) (t := t) (w := v) (by unfold neOk; rw [h1]; simp))
    clear h1
    go_enter Try.func70, Try.ntmps70
    go_wp2_with fail
    refine (areK_v A _ c L _ HC.out _ (casts_at HS.out (box1 (Below.refl _ _)).1) hm hcap).mono ?_
    rintro e w1 ⟨rfl, hb⟩
    have HX := Lib.hid (box1 hb)
    clear hb
    have a0 := HX.out.2.at_ 0 _ rfl
    have a1 := HX.out.2.at_ 1 _ rfl
    go_wp2_with fail
    refine (spotK_impl _ _ _ HP.out _).mono ?_
    rintro e w2 ⟨rfl, hb⟩
    have HB2 := Lib.hid (bthen HX.out.1 hb HX.out.1.size)
    have HX2 := Lib.hid (HX.out.2.next hb)
    clear hb a0 a1
    go_wp2_with fail
    go_ret2
    exact ⟨ret_v0 HR.out, HB2.out⟩
  have HP := Lib.hid h1
  rcases h2 : inB t 0 10000 with _ | _
  · have HT := Lib.hid h2
    have HR := Lib.hid (ne_no (L := L) (x := x) (y := y) (t := t) (w := v) (by unfold neOk; rw [h2]; simp))
    clear h2
    go_enter Try.func70, Try.ntmps70
    go_wp2_with fail
    refine (areK_v A _ c L _ HC.out _ (casts_at HS.out (box1 (Below.refl _ _)).1) hm hcap).mono ?_
    rintro e w1 ⟨rfl, hb⟩
    have HX := Lib.hid (box1 hb)
    clear hb
    have a0 := HX.out.2.at_ 0 _ rfl
    have a1 := HX.out.2.at_ 1 _ rfl
    go_wp2_with fail
    refine (spotK_impl _ _ _ HP.out _).mono ?_
    rintro e w2 ⟨rfl, hb⟩
    have HB2 := Lib.hid (bthen HX.out.1 hb HX.out.1.size)
    have HX2 := Lib.hid (HX.out.2.next hb)
    clear hb a0 a1
    go_wp2_with fail
    refine (tmK_impl _ _ HT.out _).mono ?_
    rintro e w' ⟨rfl, rfl⟩
    go_wp2_with fail
    go_ret2
    exact ⟨ret_v0 HR.out, HB2.out⟩
  have HT := Lib.hid h2
  rcases h3 : inB v 0 10000 with _ | _
  · have HW := Lib.hid h3
    have HR := Lib.hid (ne_no (L := L) (x := x) (y := y) (t := t) (w := v) (by unfold neOk; rw [h3]; simp))
    clear h3
    go_enter Try.func70, Try.ntmps70
    go_wp2_with fail
    refine (areK_v A _ c L _ HC.out _ (casts_at HS.out (box1 (Below.refl _ _)).1) hm hcap).mono ?_
    rintro e w1 ⟨rfl, hb⟩
    have HX := Lib.hid (box1 hb)
    clear hb
    have a0 := HX.out.2.at_ 0 _ rfl
    have a1 := HX.out.2.at_ 1 _ rfl
    go_wp2_with fail
    refine (spotK_impl _ _ _ HP.out _).mono ?_
    rintro e w2 ⟨rfl, hb⟩
    have HB2 := Lib.hid (bthen HX.out.1 hb HX.out.1.size)
    have HX2 := Lib.hid (HX.out.2.next hb)
    clear hb a0 a1
    go_wp2_with fail
    refine (tmK_impl _ _ HT.out _).mono ?_
    rintro e w' ⟨rfl, rfl⟩
    go_wp2_with fail
    refine (within_v _ _ _ _ HW.out _).mono ?_
    rintro e w' ⟨rfl, rfl⟩
    go_wp2_with fail
    go_ret2
    exact ⟨ret_v0 HR.out, HB2.out⟩
  have HW := Lib.hid h3
  have HR := Lib.hid (ne_yes (L := L) (x := x) (y := y) (t := t) (w := v) (by unfold neOk; rw [h0, h1, h2, h3]; rfl))
  have hg := good7_of h0
  have h6 := hg.max
  have hxy := spB_yes h1
  have ht := inB_yes h2
  have hv := inB_yes h3
  obtain ⟨hx, hy⟩ := hxy
  obtain ⟨ht1, ht2⟩ := ht
  obtain ⟨hv1, hv2⟩ := hv
  clear h0 h1 h2 h3
  go_enter Try.func70, Try.ntmps70
  go_wp2_with fail
  refine (areK_v A _ c L _ HC.out _ (casts_at HS.out (box1 (Below.refl _ _)).1) hm hcap).mono ?_
  rintro e w1 ⟨rfl, hb⟩
  have HX := Lib.hid (box1 hb)
  clear hb
  have a0 := HX.out.2.at_ 0 _ rfl
  have a1 := HX.out.2.at_ 1 _ rfl
  go_wp2_with fail
  refine (spotK_impl _ _ _ HP.out _).mono ?_
  rintro e w2 ⟨rfl, hb⟩
  have HB2 := Lib.hid (bthen HX.out.1 hb HX.out.1.size)
  have HX2 := Lib.hid (HX.out.2.next hb)
  clear hb a0 a1
  go_wp2_with fail
  refine (tmK_impl _ _ HT.out _).mono ?_
  rintro e w' ⟨rfl, rfl⟩
  go_wp2_with fail
  refine (within_v _ _ _ _ HW.out _).mono ?_
  rintro e w' ⟨rfl, rfl⟩
  go_wp2_with fail
  go_loopw [10, 11, 35] (fun a b i wr => ∃ k : Nat, k ≤ L.length ∧ i = .int .i64 k ∧ ((neK L x y t v k = (0, -1) ∧ a = .int .i64 0 ∧ b = .int .i64 0) ∨ (∃ p q : Int, neK L x y t v k = (p, q) ∧ 1 ≤ p ∧ 0 ≤ q ∧ q ≤ 2000000 ∧ a = .int .i64 p ∧ b = .int .i64 q)) ∧ Hid (Below w2.heap.size w2 wr)) (fun _ _ i _ => L.length - (intOf i).toNat)
  case atStart => exact ⟨0, Nat.zero_le _, rfl, .inl ⟨rfl, rfl, rfl⟩, Lib.hid (Below.refl _ _)⟩
  case round =>
    obtain ⟨k, hk, rfl, hPQ, hB⟩ := hrel
    have HBW := Lib.hid (bthen HB2.out hB.out HB2.out.size)
    by_cases hlt : k < L.length
    · have HSk := Lib.hid (casts_at HS.out (bthen HB2.out hB.out HB2.out.size))
      obtain ⟨b, o, id, tm, x1, y1, l, A1, c1, rfl, hbl, hL, c0, c1x, c2, c3, c4, hsp, hl⟩ := HSk.out.2 k hlt
      have hcb := hg.one k hlt
      have hat := castB_at hcb
      have htm := castB_tm hcb
      have hid := castB_id hcb
      have hfb := farB_bd hcb hx hy
      rw [kcAt_at hL] at hat htm hid hfb
      simp only at hat htm hid
      obtain ⟨hid1, hid2⟩ := hid
      obtain ⟨htm1, htm2⟩ := htm
      obtain ⟨hfb1, hfb2⟩ := hfb
      obtain ⟨F, hF⟩ : ∃ F, farB ⟨id, tm, x1, y1, l⟩ x y = F := ⟨_, rfl⟩
      rw [hF] at hfb1 hfb2
      obtain ⟨⟨hat1, hat2⟩, hat3, hat4⟩ := hat
      have HA2 := Lib.hid (HX2.out.next hB.out)
      obtain ⟨W0, hW0⟩ : ∃ W0, W0 = wr.alloc (.cells #[.int .i64 id, .int .i64 tm, .int .i64 x1, .int .i64 y1, .slice A1 l.length c1] 64) := ⟨_, rfl⟩
      have HW0 : Hid (Below wr.heap.size wr W0 ∧ Has W0 wr.heap.size [.int .i64 id, .int .i64 tm, .int .i64 x1, .int .i64 y1, .slice A1 l.length c1]) := by rw [hW0]; exact box1 (Below.refl _ _)
      have HB0 := Lib.hid (bthen hB.out HW0.out.1 hB.out.size)
      have HA3 := Lib.hid (HA2.out.next HW0.out.1)
      have HE := Lib.hid hW0
      have HF : Hid ((x - x1) * (x - x1) + (y - y1) * (y - y1) = F) := by unfold Hid; rw [← hF, farB_sym]
      have HKF : Hid (farB (kcAt L k) x y = F ∧ (kcAt L k).tm = tm ∧ (kcAt L k).id = id) := by unfold Hid; rw [kcAt_at hL]; exact ⟨hF, rfl, rfl⟩
      clear hL hsp hF hcb hW0
      have b0 := (HA2.out.alloc (.cells #[.int .i64 id, .int .i64 tm, .int .i64 x1, .int .i64 y1, .slice A1 l.length c1] 64)).at_ 0 _ rfl
      have b1 := (HA2.out.alloc (.cells #[.int .i64 id, .int .i64 tm, .int .i64 x1, .int .i64 y1, .slice A1 l.length c1] 64)).at_ 1 _ rfl
      go_wp2_with fail
      rw [← HE.out]
      refine (sqK_impl x1 y1 x y F HF.out _ ⟨hat1, hat2⟩ ⟨hat3, hat4⟩ hx hy).mono ?_
      rintro e w4 ⟨rfl, hb⟩
      have HB4 := Lib.hid (bthen HB0.out hb HB0.out.size)
      have HH4 := Lib.hid (HW0.out.2.next hb)
      clear hb b0 b1 c0 c1x c2 c3 c4
      have a0 := HH4.out.at_ 0 _ rfl
      have a1 := HH4.out.at_ 1 _ rfl
      rcases hin : inB (tm - t) (-v) v with _ | _
      · rcases hPQ with ⟨hN, rfl, rfl⟩ | ⟨p, q, hN, hp1, hq1, hq2, rfl, rfl⟩
        · have HI : Hid (inB tm (t - v) (t + v) = false) := (within_sh tm t v).trans hin
          have HN2 : Hid (neK L x y t v (k + 1) = neK L x y t v k) := by unfold Hid; rw [neK_out (by rw [HKF.out.2.1]; exact hin)]
          clear hin
          go_wp2_with fail
          refine (within_v _ _ _ _ HI.out _).mono ?_
          rintro e w' ⟨rfl, rfl⟩
          go_wp2_with fail
          go_roundw
          case rel => exact ⟨k + 1, by omega, by go_num, .inl ⟨HN2.out.trans hN, rfl, rfl⟩, HB4⟩
          case measure => simp [intOf]; omega
        · have HI : Hid (inB tm (t - v) (t + v) = false) := (within_sh tm t v).trans hin
          have HN2 : Hid (neK L x y t v (k + 1) = neK L x y t v k) := by unfold Hid; rw [neK_out (by rw [HKF.out.2.1]; exact hin)]
          clear hin
          go_wp2_with fail
          refine (within_v _ _ _ _ HI.out _).mono ?_
          rintro e w' ⟨rfl, rfl⟩
          go_wp2_with fail
          go_roundw
          case rel => exact ⟨k + 1, by omega, by go_num, .inr ⟨p, q, HN2.out.trans hN, hp1, hq1, hq2, rfl, rfl⟩, HB4⟩
          case measure => simp [intOf]; omega
      · rcases hPQ with ⟨hN, rfl, rfl⟩ | ⟨p, q, hN, hp1, hq1, hq2, rfl, rfl⟩
        · have HI : Hid (inB tm (t - v) (t + v) = true) := (within_sh tm t v).trans hin
          have HN2 : Hid (neK L x y t v (k + 1) = (id, F)) := by unfold Hid; rw [neK_yes (by rw [HKF.out.2.1]; exact hin) (.inl (by rw [hN]; decide)), HKF.out.1, HKF.out.2.2]
          clear hin
          go_wp2_with fail
          refine (within_v _ _ _ _ HI.out _).mono ?_
          rintro e w' ⟨rfl, rfl⟩
          go_wp2_with fail
          go_roundw
          case rel => exact ⟨k + 1, by omega, by go_num, .inr ⟨id, F, HN2.out, hid1, hfb1, hfb2, rfl, rfl⟩, HB4⟩
          case measure => simp [intOf]; omega
        · have hp0 : (p == 0) = false := beq_eq_false_iff_ne.2 (by omega)
          by_cases hfq : F < q
          · have HI : Hid (inB tm (t - v) (t + v) = true) := (within_sh tm t v).trans hin
            have HN2 : Hid (neK L x y t v (k + 1) = (id, F)) := by unfold Hid; rw [neK_yes (by rw [HKF.out.2.1]; exact hin) (.inr (by rw [hN, HKF.out.1]; exact hfq)), HKF.out.1, HKF.out.2.2]
            clear hin
            go_wp2_with fail
            refine (within_v _ _ _ _ HI.out _).mono ?_
            rintro e w' ⟨rfl, rfl⟩
            go_wp2_with fail
            go_roundw
            case rel => exact ⟨k + 1, by omega, by go_num, .inr ⟨id, F, HN2.out, hid1, hfb1, hfb2, rfl, rfl⟩, HB4⟩
            case measure => simp [intOf]; omega
          · have HI : Hid (inB tm (t - v) (t + v) = true) := (within_sh tm t v).trans hin
            have HN2 : Hid (neK L x y t v (k + 1) = neK L x y t v k) := by unfold Hid; rw [neK_no (by rw [hN]; simp only; omega) (by rw [hN, HKF.out.1]; exact hfq)]
            clear hin
            go_wp2_with fail
            refine (within_v _ _ _ _ HI.out _).mono ?_
            rintro e w' ⟨rfl, rfl⟩
            go_wp2_with fail
            go_roundw
            case rel => exact ⟨k + 1, by omega, by go_num, .inr ⟨p, q, HN2.out.trans hN, hp1, hq1, hq2, rfl, rfl⟩, HB4⟩
            case measure => simp [intOf]; omega
    · obtain rfl : k = L.length := by omega
      rcases hPQ with ⟨hN, rfl, rfl⟩ | ⟨p, q, hN, hp1, hq1, hq2, rfl, rfl⟩
      · have HV : Hid (neV L x y t v = 0) := by unfold Hid; rw [HR.out, neId, hN]
        go_wp2_with fail
        go_ret2
        exact ⟨ret_v0 HV.out, HBW.out⟩
      · have HV : Hid (neV L x y t v = p) := by unfold Hid; rw [HR.out, neId, hN]
        go_wp2_with fail
        go_ret2
        exact ⟨ret_v2 HV.out, HBW.out⟩
end Go.Proofs.Ytdmnkmdlochogab
