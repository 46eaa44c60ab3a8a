/-
  sort.Search at this dump (the shelf's contract laid); contracts of impl.rootOf, spec.l2Root, impl.LengthBetween, spec.LengthBetween over this translation. Conditions: stated at each theorem.
-/
import Derived.Test.YtjnimedbjmihaaaSq
import Derived.Shelf.SlSorted.Search
namespace Go.Proofs
open Go.Shelf
def Try.lays16_ren : Go.Shelf.Ren := ⟨fun | 16 => 81 | n => n, fun | 3 => 3 | 4 => 4 | 35 => 92 | 38 => 96 | n => n, fun | n => n⟩
theorem Try.lays16 : SlLaysO.n16 Try.prog Try.lays16_ren := {
  mixed := by kernel_rfl
  f16 := Try.func81.trans (congrArg some (by kernel_rfl))
  t3 := Try.underlying3
  a3 := Try.isAgg3
  z3 := Try.sizeOf3
  v3 := Try.zeroValue3
  t4 := Try.underlying4
  a4 := Try.isAgg4
  z4 := Try.sizeOf4
  v4 := Try.zeroValue4
  t35 := Try.underlying92
  a35 := Try.isAgg92
  z35 := Try.sizeOf92
  v35 := Try.zeroValue92
  t38 := Try.underlying96
  a38 := Try.isAgg96
  z38 := Try.sizeOf96
  v38 := Try.zeroValue96 }
end Go.Proofs
namespace Go.Proofs.Ytjnimedbjmihaaa
open Go.RowKit Go.Sort Go.Lib

/-! ### Roots, plainly -/
def small (n i : Nat) : Bool := decide ((i + 1) * (i + 1) ≤ n)
def rootN (n : Nat) : Nat := (List.range n).countP (small n)
theorem sq_mono {a b : Nat} (h : a ≤ b) : a * a ≤ b * b := Nat.mul_le_mul h h
theorem root_ex (n : Nat) : ∃ r, r * r ≤ n ∧ n < (r + 1) * (r + 1) := by
  induction n with
  | zero => exact ⟨0, by decide, by decide⟩
  | succ n ih =>
    obtain ⟨r, h1, h2⟩ := ih
    by_cases h : n + 1 < (r + 1) * (r + 1)
    · exact ⟨r, by omega, h⟩
    · refine ⟨r + 1, by omega, ?_⟩
      have := sq_mono (show r + 1 ≤ r + 1 + 1 by omega)
      have e : (r + 1 + 1) * (r + 1 + 1) = (r + 1) * (r + 1) + (r + 1) + (r + 1) + 1 := by
        rw [Nat.add_mul, Nat.mul_add, Nat.one_mul, Nat.mul_one]; omega
      omega
theorem count_lt (r : Nat) : ∀ m, (List.range m).countP (fun i => decide (i < r)) = min r m := by
  intro m
  induction m with
  | zero => simp
  | succ m ih =>
    rw [List.range_succ, List.countP_append, ih]
    by_cases h : m < r
    · simp [h]; omega
    · simp [h]; omega
theorem rootN_of {n r : Nat} (h1 : r * r ≤ n) (h2 : n < (r + 1) * (r + 1)) : rootN n = r := by
  have e : rootN n = (List.range n).countP (fun i => decide (i < r)) := by
    unfold rootN
    refine List.countP_congr fun i _ => ?_
    unfold small
    rw [decide_eq_true_iff, decide_eq_true_iff]
    constructor
    · intro h
      rcases Nat.lt_or_ge i r with h3 | h3
      · exact h3
      · have := sq_mono (show r + 1 ≤ i + 1 by omega)
        omega
    · intro h
      have := sq_mono (show i + 1 ≤ r by omega)
      omega
  rw [e, count_lt]
  have h3 : r ≤ n := by
    rcases Nat.eq_zero_or_pos r with h | h
    · omega
    · have := Nat.mul_le_mul (show 1 ≤ r from h) (Nat.le_refl r)
      omega
  omega
theorem rootN_spec (n : Nat) : rootN n * rootN n ≤ n ∧ n < (rootN n + 1) * (rootN n + 1) := by
  obtain ⟨r, h1, h2⟩ := root_ex n
  rw [rootN_of h1 h2]
  exact ⟨h1, h2⟩

/-! ### impl.rootOf -/
theorem grow_no (w : World) : grow (w.drewN 0) #[] = w := by rw [World.drewN_zero]; exact grow_empty w
theorem test_any (n i b : Nat) (hi : i < 2000000) (w : World) (hc : w.cell? ⟨b, 0, none⟩ = some (.int .i64 n)) :
    Calls Try.prog 82 #[.int .i64 i, .pointer (some ⟨b, 0, none⟩)] w fun e w' => e = .returned (.bool (!small n i)) ∧ w = w' := by
  have h1 : ((i : Int) + 1) * ((i : Int) + 1) ≤ 4000000000000 := by
    have := sq_mono (show i + 1 ≤ 2000000 by omega)
    have e : (((i + 1) * (i + 1) : Nat) : Int) = ((i : Int) + 1) * ((i : Int) + 1) := by rw [Int.natCast_mul]; rfl
    omega
  have h0 : 0 ≤ ((i : Int) + 1) * ((i : Int) + 1) := Int.mul_nonneg (by omega) (by omega)
  have e : (((i + 1) * (i + 1) : Nat) : Int) = ((i : Int) + 1) * ((i : Int) + 1) := by rw [Int.natCast_mul]; rfl
  by_cases hs : (n : Int) < ((i : Int) + 1) * ((i : Int) + 1)
  · have HR : Hid ((!small n i) = true) := by
      unfold Hid small
      rw [decide_eq_false (by omega)]; rfl
    clear e
    go_enter Try.func82, Try.ntmps82
    go_wp2
    go_ret
    exact ⟨ret_bool HR.out.symm, rfl⟩
  · have HR : Hid ((!small n i) = false) := by
      unfold Hid small
      rw [decide_eq_true (by omega)]; rfl
    clear e
    go_enter Try.func82, Try.ntmps82
    go_wp2
    go_ret
    exact ⟨ret_bool HR.out.symm, rfl⟩
theorem enters_test : ∀ args w, (callFunc 82 args).run Try.prog w = .ok (.enter 82 args) w := enters_of Try.func82 (by kernel_rfl) rfl
theorem below_growN (w : World) (q : Nat) (os : Array Obj) : Below w.heap.size w (grow (w.drewN q) os) :=
  ⟨rfl, rfl, rfl, by simp, fun _ hk => heap_grow_old (w.drewN q) os hk⟩
theorem search_any (n b : Nat) (hn : n ≤ 2000000) (w : World) (hc : w.cell? ⟨b, 0, none⟩ = some (.int .i64 n)) :
    Calls Try.prog 81 #[.int .i64 n, .func (.func 82) #[] #[.pointer (some ⟨b, 0, none⟩)]] w fun e w' => e = .returned (.int .i64 (rootN n)) ∧ Below w.heap.size w w' := by
  have hb := World.block_lt_of_cell? w _ hc
  have h := Any.sort_Search Try.lays16 82 #[.pointer (some ⟨b, 0, none⟩)] n (fun i => !small n i) w enters_test (by omega)
    (fun m os i hi => by
      have hk : (grow (w.drewN m) os).cell? ⟨b, 0, none⟩ = some (.int .i64 n) := (World.cell?_of_block (heap_grow_old (w.drewN m) os hb)).trans hc
      refine (test_any n i b (by omega) _ hk).mono fun e w' ⟨he, hw⟩ => ⟨he, 0, #[], ?_⟩
      rw [← hw]; exact (grow_no _).symm)
    (fun a c hac hcn hp => by
      have h1 : small n a = false := by simpa using hp
      have h2 : ¬ (a + 1) * (a + 1) ≤ n := of_decide_eq_false h1
      have h3 := sq_mono (show a + 1 ≤ c + 1 by omega)
      have h4 : small n c = false := decide_eq_false (by omega)
      simp [h4])
  refine Calls.mono h fun e w' ⟨he, q, os, hw⟩ => ⟨?_, ?_⟩
  · rw [he]
    have e2 : (fun i => !(!small n i)) = small n := by funext i; simp
    rw [e2]; rfl
  · rw [hw]; exact below_growN w q os
theorem root_impl (n : Nat) (hn : n ≤ 2000000) (w : World) :
    Calls Try.prog 72 #[.int .i64 n] w fun e w' => e = .returned (.int .i64 (rootN n)) ∧ Below w.heap.size w w' := by
  have H := Lib.hid (search_any n w.heap.size hn (w.alloc (.cells #[.int .i64 n] 3)) (World.cell?_alloc_new _ _ _ _))
  go_enter Try.func72, Try.ntmps72
  go_wp2_with fail
  refine H.out.mono ?_
  rintro e w1 ⟨rfl, hb⟩
  have HB := Lib.hid (box1 hb).1
  clear hb
  go_wp2_with fail
  go_ret
  exact ⟨rfl, HB.out⟩

/-! ### spec.l2Root -/
set_option maxHeartbeats 800000 in
theorem root_spec (n : Nat) (hn : n ≤ 2000000) (w : World) :
    Calls Try.prog 73 #[.int .i64 n] w fun e w' => e = .returned (.int .i64 (rootN n)) ∧ w = w' := by
  have HN := Lib.hid hn
  go_enter Try.func73, Try.ntmps73
  go_wp2
  go_loop [3, 4, 5] (fun a b c => ∃ lo hi : Nat, lo ≤ hi ∧ hi ≤ 2000 ∧ a = .int .i64 lo ∧ b = .int .i64 hi ∧ Hid (lo * lo ≤ n ∧ n < (hi + 1) * (hi + 1))) (fun a b _ => (intOf b - intOf a).toNat)
  case atStart => exact ⟨0, 2000, by omega, by omega, rfl, rfl, Lib.hid ⟨by omega, by have := HN.out; omega⟩⟩
  case round =>
    obtain ⟨lo, hi, hle, h2, rfl, rfl, hI⟩ := hrel
    by_cases hlt : lo < hi
    · obtain ⟨M, hM⟩ : ∃ M : Nat, M = (lo + hi + 1) / 2 := ⟨_, rfl⟩
      have hm : ((lo : Int) + (hi : Int) + 1) / 2 = (M : Int) := by omega
      have HM0 := Lib.hid hm
      have hm1 : lo < M := by omega
      have hm2 : M ≤ hi := by omega
      have e : ((M * M : Nat) : Int) = (M : Int) * (M : Int) := Int.natCast_mul _ _
      have hsq := sq_mono (show M ≤ 2000 by omega)
      have h0 : 0 ≤ (M : Int) * (M : Int) := by omega
      have h1 : (M : Int) * (M : Int) ≤ 4000000 := by omega
      by_cases hc : (M : Int) * (M : Int) ≤ n
      · have HI : Hid (M * M ≤ n ∧ n < (hi + 1) * (hi + 1)) := ⟨by omega, hI.out.2⟩
        clear hM e hsq
        go_wp2
        go_round
        case rel => exact ⟨M, hi, by omega, h2, by rw [HM0.out], rfl, HI⟩
        case measure => simp [intOf]; omega
      · have HI : Hid (lo * lo ≤ n ∧ n < (M - 1 + 1) * (M - 1 + 1)) := ⟨hI.out.1, by rw [show M - 1 + 1 = M by omega]; omega⟩
        have HM := Lib.hid (show ((M - 1 : Nat) : Int) = (M : Int) - 1 by omega)
        clear hM e hsq
        go_wp2
        go_round
        case rel => exact ⟨lo, M - 1, by omega, by omega, rfl, by rw [HM.out], HI⟩
        case measure => simp [intOf]; omega
    · obtain rfl : lo = hi := by omega
      have HR := Lib.hid (rootN_of hI.out.1 hI.out.2)
      go_wp2
      go_ret
      exact ⟨ret_int (by rw [HR.out]), rfl⟩

/-! ### LengthBetween -/
def lenN (ax ay bx by_ : Int) : Int := if sqK ax ay bx by_ = true then ((rootN (sqI ax ay bx by_).toNat : Nat) : Int) else 0
theorem len_no {ax ay bx by_ : Int} (h : sqK ax ay bx by_ = false) : Ending.returned (.tuple #[.int .i64 0, .bool false]) = .returned (.tuple #[.int .i64 (lenN ax ay bx by_), .bool (sqK ax ay bx by_)]) :=
  ret_ib (by unfold lenN; rw [h]; rfl) h.symm
theorem len_yes {ax ay bx by_ : Int} (h : sqK ax ay bx by_ = true) : Ending.returned (.tuple #[.int .i64 ((rootN (sqI ax ay bx by_).toNat : Nat) : Int), .bool true]) = .returned (.tuple #[.int .i64 (lenN ax ay bx by_), .bool (sqK ax ay bx by_)]) :=
  ret_ib (by unfold lenN; rw [if_pos h]) h.symm
/-- What LengthBetween hands back. -/
def LenPost (ax ay bx by_ : Int) (w : World) (e : Ending) (w' : World) : Prop :=
  e = .returned (.tuple #[.int .i64 (lenN ax ay bx by_), .bool (sqK ax ay bx by_)]) ∧ Below w.heap.size w w'
theorem sq_nat {ax ay bx by_ : Int} (h : sqK ax ay bx by_ = true) : sqI ax ay bx by_ = ((sqI ax ay bx by_).toNat : Nat) ∧ (sqI ax ay bx by_).toNat ≤ 2000000 := by
  unfold sqK at h
  rw [Bool.and_eq_true] at h
  obtain ⟨h1, h2⟩ := sqI_bd (spotB_yes h.1).1 (spotB_yes h.1).2 (spotB_yes h.2).1 (spotB_yes h.2).2
  omega
theorem root_impl_v (n : Int) (N : Nat) (h : n = (N : Int)) (hn : N ≤ 2000000) (w : World) :
    Calls Try.prog 72 #[.int .i64 n] w fun e w' => e = .returned (.int .i64 (rootN N)) ∧ Below w.heap.size w w' := by subst h; exact root_impl N hn w
theorem root_spec_v (n : Int) (N : Nat) (h : n = (N : Int)) (hn : N ≤ 2000000) (w : World) :
    Calls Try.prog 73 #[.int .i64 n] w fun e w' => e = .returned (.int .i64 (rootN N)) ∧ w = w' := by subst h; exact root_spec N hn w
set_option maxHeartbeats 800000 in
theorem len_impl (ax ay bx by_ : Int) (w : World) :
    Calls Try.prog 42 #[.agg #[.int .i64 ax, .int .i64 ay], .agg #[.int .i64 bx, .int .i64 by_]] w (LenPost ax ay bx by_ w) := by
  rcases hk : sqK ax ay bx by_ with _ | _
  · have HK := Lib.hid hk
    have HR := Lib.hid (len_no hk)
    clear hk
    go_enter Try.func42, Try.ntmps42
    go_wp2_with fail
    refine (sqb_impl ax ay bx by_ _).mono ?_
    rintro e w1 ⟨rfl, hb⟩
    have HB := Lib.hid (box2 hb).1
    clear hb
    rw [HK.out]
    go_wp2_with fail
    go_ret2
    exact ⟨HR.out, HB.out⟩
  · have HK := Lib.hid hk
    have HR := Lib.hid (len_yes hk)
    have HN := Lib.hid (sq_nat hk)
    have HQ := Lib.hid (show sqN ax ay bx by_ = sqI ax ay bx by_ by unfold sqN; rw [if_pos hk])
    clear hk
    go_enter Try.func42, Try.ntmps42
    go_wp2_with fail
    refine (sqb_impl ax ay bx by_ _).mono ?_
    rintro e w1 ⟨rfl, hb⟩
    have HB := Lib.hid (box2 hb).1
    clear hb
    rw [HK.out, HQ.out]
    go_wp2_with fail
    refine (root_impl_v _ _ HN.out.1 HN.out.2 _).mono ?_
    rintro e w2 ⟨rfl, hb⟩
    have HB2 := Lib.hid (bthen HB.out hb HB.out.size)
    clear hb
    go_wp2_with fail
    go_ret2
    exact ⟨HR.out, HB2.out⟩
set_option maxHeartbeats 800000 in
theorem len_spec (ax ay bx by_ : Int) (w : World) :
    Calls Try.prog 43 #[.agg #[.int .i64 ax, .int .i64 ay], .agg #[.int .i64 bx, .int .i64 by_]] w (LenPost ax ay bx by_ w) := by
  rcases h1 : spotB ax ay with _ | _
  · have H1 := Lib.hid h1
    have HR := Lib.hid (len_no (ax := ax) (ay := ay) (bx := bx) (by_ := by_) (by unfold sqK; rw [h1]; rfl))
    clear h1
    go_enter Try.func43, Try.ntmps43
    go_wp2_with fail
    refine (l2Spot_v ax ay _ H1.out _).mono ?_
    rintro e w1 ⟨rfl, hb⟩
    have HB := Lib.hid (box2 hb)
    clear hb
    go_wp2_with fail
    go_ret2
    exact ⟨HR.out, HB.out.1⟩
  rcases h2 : spotB bx by_ with _ | _
  · have H1 := Lib.hid h1
    have H2 := Lib.hid h2
    have HR := Lib.hid (len_no (ax := ax) (ay := ay) (bx := bx) (by_ := by_) (by unfold sqK; rw [h1, h2]; rfl))
    clear h1 h2
    go_enter Try.func43, Try.ntmps43
    go_wp2_with fail
    refine (l2Spot_v ax ay _ H1.out _).mono ?_
    rintro e w1 ⟨rfl, hb⟩
    have HB := Lib.hid (box2 hb)
    clear hb
    have c0 := HB.out.2.2.at_ 0 _ rfl
    have c1 := HB.out.2.2.at_ 1 _ rfl
    go_wp2_with fail
    refine (l2Spot_v bx by_ _ H2.out _).mono ?_
    rintro e w2 ⟨rfl, hb⟩
    have HB2 := Lib.hid (bthen HB.out.1 hb HB.out.1.size)
    clear hb c0 c1
    go_wp2_with fail
    go_ret2
    exact ⟨HR.out, HB2.out⟩
  · have H1 := Lib.hid h1
    have H2 := Lib.hid h2
    have hk : sqK ax ay bx by_ = true := by unfold sqK; rw [h1, h2]; rfl
    have HR := Lib.hid (len_yes hk)
    have HN := Lib.hid (sq_nat hk)
    clear h1 h2 hk
    go_enter Try.func43, Try.ntmps43
    go_wp2_with fail
    refine (l2Spot_v ax ay _ H1.out _).mono ?_
    rintro e w1 ⟨rfl, hb⟩
    have HB := Lib.hid (box2 hb)
    clear hb
    have c0 := HB.out.2.2.at_ 0 _ rfl
    have c1 := HB.out.2.2.at_ 1 _ rfl
    go_wp2_with fail
    refine (l2Spot_v bx by_ _ H2.out _).mono ?_
    rintro e w2 ⟨rfl, hb⟩
    have HB2 := Lib.hid (bthen HB.out.1 hb HB.out.1.size)
    have HA := HB.out.2.1.next hb
    have HC := HB.out.2.2.next hb
    clear hb c0 c1
    have c0 := HA.at_ 0 _ rfl
    have c1 := HA.at_ 1 _ rfl
    have c2 := HC.at_ 0 _ rfl
    have c3 := HC.at_ 1 _ rfl
    clear HA HC
    go_wp2_with fail
    refine (sq_spec ax ay bx by_ (spotB_yes H1.out).1 (spotB_yes H1.out).2 (spotB_yes H2.out).1 (spotB_yes H2.out).2 _).mono ?_
    rintro e w3 ⟨rfl, hb⟩
    have HB3 := Lib.hid (bthen HB2.out hb HB2.out.size)
    clear hb c0 c1 c2 c3
    go_wp2_with fail
    refine (root_spec_v _ _ HN.out.1 HN.out.2 _).mono ?_
    rintro e w4 ⟨rfl, rfl⟩
    go_wp2_with fail
    go_ret2
    exact ⟨HR.out, HB3.out⟩
end Go.Proofs.Ytjnimedbjmihaaa
