/-
  Plans: contracts of impl.PlanLines, spec.PlanLines over this translation. Conditions: stated at each theorem.
-/
import Derived.Test.YtdmnkmdlochogabLr
import Derived.Deep.DeepCutAuto
import Derived.Test.YtdmnkmdlochogabLw
import Derived.Test.YtdmnkmdlochogabBs
import Derived.Test.YtdmnkmdlochogabUp
import Derived.Test.YtdmnkmdlochogabLd
namespace Go.Proofs.Ytdmnkmdlochogab
open Go.RowKit
set_option linter.unusedVariables false

/-- How many lines are planned, whatever the limit. -/
def plM (s n sw : Int) : Nat := max 1 ((n - s + 2 * sw - 1) / (2 * sw)).toNat
theorem plM_end {s n sw : Int} (hsw : 1 ≤ sw) (hsn : s ≤ n) : PlEnd s n sw (plM s n sw) := by
  obtain ⟨q, hq⟩ : ∃ q, (n - s + 2 * sw - 1) / (2 * sw) = q := ⟨_, rfl⟩
  have h1 := Int.emod_add_mul_ediv (n - s + 2 * sw - 1) (2 * sw)
  have h2 := Int.emod_nonneg (n - s + 2 * sw - 1) (show 2 * sw ≠ 0 by omega)
  have h3 := Int.emod_lt_of_pos (n - s + 2 * sw - 1) (show 0 < 2 * sw by omega)
  have h4 : 0 ≤ q := by rw [← hq]; exact Int.ediv_nonneg (by omega) (by omega)
  rw [hq] at h1
  unfold plM
  rw [hq]
  by_cases h0 : 1 ≤ q
  · obtain ⟨m, rfl⟩ : ∃ m : Nat, q = m := ⟨q.toNat, by omega⟩
    have e : max 1 ((m : Int).toNat) = m := by rw [Int.toNat_natCast]; omega
    rw [e]
    have hm : 2 * sw * ((m - 1 : Nat) : Int) = 2 * sw * (m : Int) - 2 * sw := by
      rw [show ((m - 1 : Nat) : Int) = (m : Int) - 1 by omega, Int.mul_sub, Int.mul_one]
    exact plEnd_mk hsw (by omega) (fun _ => by rw [hm]; omega) (by omega)
  · obtain rfl : q = 0 := by omega
    refine plEnd_mk hsw (by decide) (fun h => absurd h (by decide)) ?_
    rw [Int.mul_zero] at h1
    show n ≤ s + 2 * sw * ((1 : Nat) : Int)
    rw [show ((1 : Nat) : Int) = 1 from rfl, Int.mul_one]
    omega
def plF (a b c d sw : Int) : Bool := boxB a b c d && (decide (a ≠ c) && inB sw 1 300)
def plK (a b c d sw : Int) : Bool := plF a b c d sw && decide (plM b d sw ≤ 8)
def plR (a b c d sw : Int) : List LN := if plK a b c d sw then plL a c b d sw (plM b d sw) else []
theorem plF_parts {a b c d sw : Int} (h : plF a b c d sw = true) : boxB a b c d = true ∧ a ≠ c ∧ (1 ≤ sw ∧ sw ≤ 300) := by
  unfold plF at h
  simp only [Bool.and_eq_true, decide_eq_true_eq] at h
  exact ⟨h.1, h.2.1, inB_yes h.2.2⟩
/-- A row of lines of the call's own and a bool. -/
def LinesPost (L : List LN) (K : Bool) (w : World) (e : Ending) (w' : World) : Prop :=
  ∃ A c, e = .returned (.tuple #[.slice A L.length c, .bool K]) ∧ OwnSN w' w.heap.size w'.heap.size A L.length L ∧ Below w.heap.size w w'
theorem lines_of_acc {w w' : World} {cs : List Value} {v : Value} {n : Nat} {L : List LN} {K : Bool} (h : Acc w 34 5 cs v n (cellsSN L) w') (hn : L.length = n) {M : List LN} {K' : Bool} (hM : M = L) (hK : K' = K) : LinesPost M K' w (.returned (.tuple #[v, .bool K])) w' := by
  subst hM
  subst hK
  obtain ⟨A, c, rfl⟩ := own_slice h.1
  subst hn
  rcases Nat.eq_zero_or_pos M.length with h0 | h0
  · exact ⟨A, c, rfl, ⟨rfl, .inl h0⟩, h.2.1⟩
  · obtain ⟨g, hA⟩ : ∃ g : Nat, A = some ⟨g, 0, none⟩ := by
      rcases h.1.2 with ⟨_, h1⟩ | ⟨g, cap, cur, hv, _⟩
      · omega
      · exact ⟨g, by injection hv⟩
    subst hA
    have hF := fillS_rowN h.1 rfl
    exact ⟨_, c, rfl, ⟨rfl, .inr ⟨g, rfl, hF.lt, hF.wide (Nat.le_succ _)⟩⟩, h.2.1⟩
theorem plR_no {a b c d sw : Int} (h : plF a b c d sw = false) : plR a b c d sw = [] ∧ plK a b c d sw = false := by
  have e : plK a b c d sw = false := by unfold plK; rw [h]; rfl
  exact ⟨by unfold plR; rw [e]; rfl, e⟩
theorem plR_many {a b c d sw : Int} (h : ¬ plM b d sw ≤ 8) : plR a b c d sw = [] ∧ plK a b c d sw = false := by
  have e : plK a b c d sw = false := by unfold plK; rw [decide_eq_false h, Bool.and_false]
  exact ⟨by unfold plR; rw [e]; rfl, e⟩
theorem plR_yes {a b c d sw : Int} (h : plF a b c d sw = true) (hm : plM b d sw ≤ 8) : plR a b c d sw = plL a c b d sw (plM b d sw) ∧ plK a b c d sw = true := by
  have e : plK a b c d sw = true := by unfold plK; rw [h, decide_eq_true hm]; rfl
  exact ⟨by unfold plR; rw [e]; rfl, e⟩
theorem plV_eq {a b c d sw : Int} {m k : Nat} (h : PlEnd b d sw m) (hsw : 1 ≤ sw) (hk : k < m) {y : Int} (hy : min (b + sw + 2 * sw * k) d = y) : plV a c b d sw k = ⟨k + 1, y, a, c, sw⟩ := by
  have e := plV_y (w := a) (e := c) h hsw hk
  unfold plV at e ⊢
  dsimp only at e
  rw [e, ← hy]
  congr 1
  omega
theorem box_fourB {w : World} {g : Nat} {a b c d : Int} (h : Has w g [.int .i64 a, .int .i64 b, .int .i64 c, .int .i64 d]) : w.cell? ⟨g, 0, none⟩ = some (.int .i64 a) ∧ w.cell? ⟨g, 1, none⟩ = some (.int .i64 b) ∧ w.cell? ⟨g, 2, none⟩ = some (.int .i64 c) ∧ w.cell? ⟨g, 3, none⟩ = some (.int .i64 d) := ⟨h.at_ 0 _ rfl, h.at_ 1 _ rfl, h.at_ 2 _ rfl, h.at_ 3 _ rfl⟩
set_option maxRecDepth 20000 in
set_option maxHeartbeats 3200000 in
theorem plan_impl (a b c d sw : Int) (w : World) :
    Calls Try.prog 16 #[.agg #[.int .i64 a, .int .i64 b, .int .i64 c, .int .i64 d], .int .i64 sw] w (LinesPost (plR a b c d sw) (plK a b c d sw) w) := by
  obtain ⟨i0, hi, hz0, hz1, hz2⟩ := info_parts infoSoundN
  have HI := Lib.hid (And.intro hi (And.intro hz0 (And.intro hz1 hz2)))
  clear hi hz0 hz1 hz2
  rcases h1 : boxB a b c d with _ | _
  · have HX1 := Lib.hid h1
    have HR := Lib.hid (plR_no (a := a) (b := b) (c := c) (d := d) (sw := sw) (by unfold plF; rw [h1]; rfl))
    clear h1
    go_enter Try.func16, Try.ntmps16
    go_wp2_with fail
    refine (isBox_impl _ _ _ _ _).mono ?_
    rintro e w1 ⟨he, hb⟩
    rw [HX1.out] at he
    subst he
    have HX := Lib.hid (box1 hb)
    clear hb
    obtain ⟨a0, a1, a2, a3⟩ := box_fourB HX.out.2
    go_wp2_with fail
    have HAC := Lib.hid (acc_start 34 5 HX.out.1 HX.out.2)
    go_ret2
    exact lines_of_acc (L := []) HAC.out rfl HR.out.1 HR.out.2
  have HX1 := Lib.hid h1
  by_cases h2 : a = c
  · have HR := Lib.hid (plR_no (a := a) (b := b) (c := c) (d := d) (sw := sw) (by unfold plF; rw [decide_eq_false (by omega)]; simp))
    clear h1
    subst h2
    go_enter Try.func16, Try.ntmps16
    go_wp2_with fail
    refine (isBox_impl _ _ _ _ _).mono ?_
    rintro e w1 ⟨he, hb⟩
    rw [HX1.out] at he
    subst he
    have HX := Lib.hid (box1 hb)
    clear hb
    obtain ⟨a0, a1, a2, a3⟩ := box_fourB HX.out.2
    go_wp2_with fail
    have HAC := Lib.hid (acc_start 34 5 HX.out.1 HX.out.2)
    go_ret2
    exact lines_of_acc (L := []) HAC.out rfl HR.out.1 HR.out.2
  have hn2 : (a == c) = false := beq_eq_false_iff_ne.2 h2
  rcases h3 : inB sw 1 300 with _ | _
  · have HR := Lib.hid (plR_no (a := a) (b := b) (c := c) (d := d) (sw := sw) (by unfold plF; rw [h3]; simp))
    have HX3 := Lib.hid h3
    clear h1 h3
    go_enter Try.func16, Try.ntmps16
    go_wp2_with fail
    refine (isBox_impl _ _ _ _ _).mono ?_
    rintro e w1 ⟨he, hb⟩
    rw [HX1.out] at he
    subst he
    have HX := Lib.hid (box1 hb)
    clear hb
    obtain ⟨a0, a1, a2, a3⟩ := box_fourB HX.out.2
    go_wp2_with fail
    refine (swath_impl _ _ HX3.out _).mono ?_
    rintro e w' ⟨rfl, rfl⟩
    go_wp2_with fail
    have HAC := Lib.hid (acc_start 34 5 HX.out.1 HX.out.2)
    go_ret2
    exact lines_of_acc (L := []) HAC.out rfl HR.out.1 HR.out.2
  have HX3 := Lib.hid h3
  obtain ⟨⟨p1, p2, p3⟩, p4, p5, p6⟩ := boxB_yes h1
  obtain ⟨p7, p8⟩ := inB_yes h3
  have HPF : Hid (plF a b c d sw = true) := by unfold Hid plF; rw [h1, h3, decide_eq_true (show a ≠ c by omega)]; rfl
  have HPE := Lib.hid (plM_end (s := b) (n := d) (sw := sw) p7 p5)
  obtain ⟨m, hm⟩ : ∃ m, plM b d sw = m := ⟨_, rfl⟩
  have HME := Lib.hid hm
  rw [hm] at HPE
  have HMQ : Hid ((d - b + 2 * sw - 1) / (2 * sw) ≤ (m : Int) ∧ (m : Int) = max 1 ((d - b + 2 * sw - 1) / (2 * sw))) := by
    have h4 : 0 ≤ (d - b + 2 * sw - 1) / (2 * sw) := Int.ediv_nonneg (by omega) (by omega)
    unfold plM at hm
    exact Lib.hid ⟨by omega, by omega⟩
  clear h1 h3 hm
  go_enter Try.func16, Try.ntmps16
  go_wp2_with fail
  refine (isBox_impl _ _ _ _ _).mono ?_
  rintro e w1 ⟨he, hb⟩
  rw [HX1.out] at he
  subst he
  have HX := Lib.hid (box1 hb)
  clear hb
  obtain ⟨a0, a1, a2, a3⟩ := box_fourB HX.out.2
  go_wp2_with fail
  refine (swath_impl _ _ HX3.out _).mono ?_
  rintro e w' ⟨rfl, rfl⟩
  go_wp2_with fail
  obtain ⟨q, hq⟩ : ∃ q, (d - b + 2 * sw - 1) / (2 * sw) = q := ⟨_, rfl⟩
  rw [hq] at HMQ
  have HQ := Lib.hid hq
  have hq1 := HMQ.out.1
  have hq2 : 0 ≤ q := by rw [← hq]; exact Int.ediv_nonneg (by omega) (by omega)
  have hq3 : q ≤ 2000 := by rw [← hq]; have := (up_bd (a := d - b) (b := 2 * sw) (by omega) (by omega)).2; omega
  clear hq
  refine (up_impl (d - b) (2 * sw) q HQ.out _ (by omega) (by omega) (by omega) (by omega)).mono ?_
  rintro e w2 ⟨rfl, hb⟩
  have HX2 := Lib.hid (And.intro (bthen HX.out.1 hb HX.out.1.size) (HX.out.2.next hb))
  clear hb a0 a1 a2 a3
  by_cases h8 : 8 < m
  · have HR := Lib.hid (plR_many (a := a) (b := b) (c := c) (d := d) (sw := sw) (by rw [HME.out]; omega))
    have hq8 : 8 < q := by have := HMQ.out.2; omega
    have hq9 : 1 < q := by omega
    have HAC : Hid (Acc w 34 5 [.int .i64 a, .int .i64 b, .int .i64 c, .int .i64 d] (.slice (some ⟨w2.heap.size, 0, none⟩) 0 0) 0 (cellsSN []) (w2.alloc (.cells #[] 34))) := Lib.hid (acc_start 34 5 HX2.out.1 HX2.out.2)
    go_wp2_with fail
    go_ret2
    exact lines_of_acc (L := []) HAC.out rfl HR.out.1 HR.out.2
  have hm8 : m ≤ 8 := by omega
  have HR := Lib.hid (plR_yes (a := a) (b := b) (c := c) (d := d) (sw := sw) HPF.out (by rw [HME.out]; omega))
  rw [HME.out] at HR
  have hmx : (if 1 < q then q else 1) = (m : Int) := by have := HMQ.out.2; split <;> omega
  have HAC : Hid (Acc w 34 5 [.int .i64 a, .int .i64 b, .int .i64 c, .int .i64 d] (.slice (some ⟨w2.heap.size, 0, none⟩) 0 0) 0 (cellsSN (plL a c b d sw 0)) (w2.alloc (.cells #[] 34))) := Lib.hid (acc_start 34 5 HX2.out.1 HX2.out.2)
  go_upto_region 4 with fail
  try rw [hmx]
  go_wp2_with fail
  go_loopw [7, 40] (fun s i wr => ∃ (k : Nat) (v : Value), k ≤ m ∧ i = .int .i64 k ∧ s = v ∧ Hid (Acc w 34 5 [.int .i64 a, .int .i64 b, .int .i64 c, .int .i64 d] v k (cellsSN (plL a c b d sw k)) wr)) (fun _ i _ => m - (intOf i).toNat)
  case atStart => exact ⟨0, _, Nat.zero_le _, rfl, rfl, HAC⟩
  case round =>
    obtain ⟨k, v, hk, rfl, hv, hR⟩ := hrel
    have hv' := hv.symm
    clear hv
    subst hv'
    by_cases hlt : k < m
    · obtain ⟨a0, a1, a2, a3⟩ := box_fourB hR.out.2.2
      obtain ⟨y, hy⟩ : ∃ y, min (b + sw + 2 * sw * (k : Int)) d = y := ⟨_, rfl⟩
      have HV := Lib.hid (plV_eq (a := a) (c := c) HPE.out p7 hlt hy)
      have hpk : 0 ≤ 2 * sw * (k : Int) ∧ 2 * sw * (k : Int) ≤ 4800 := by
        refine ⟨Int.mul_nonneg (by omega) (by omega), ?_⟩
        have := Int.mul_le_mul (show 2 * sw ≤ 600 by omega) (show (k : Int) ≤ 8 by omega) (by omega) (by omega)
        omega
      have hmn : (if d < b + sw + 2 * sw * (k : Int) then d else b + sw + 2 * sw * (k : Int)) = y := by rw [← hy]; split <;> omega
      clear hy
      go_upto_region 11 with fail
      try rw [hmn]
      go_wp2_with (at_builtin; go_loud (refine wpList_append_own _ rfl _ _ 28 rfl (w.heap.size + 1) 34 i0 (.agg #[.int .i64 0, .int .i64 0, .int .i64 0, .int .i64 0, .int .i64 0]) 5 40 Try.underlying28 HI.out.1 HI.out.2.1 HI.out.2.2.1 HI.out.2.2.2 rfl (by decide) _ _ _ rfl (hR.out.1.alloc _) ⟨wr.heap.size, 0, none⟩ 1 1 [.int .i64 ((k : Int) + 1), .int .i64 y, .int .i64 a, .int .i64 c, .int .i64 sw] rfl rfl (five_newN wr ⟨(k : Int) + 1, y, a, c, sw⟩ _) (by simp [Value.oneCell']) (by unfold maxLen; omega) (by omega) (by have := hR.out.2.1.size; have := hR.out.2.2.1; simp; omega) ?_; intro v' w5 hown' hgrow _; have HN := Lib.hid (hR.out.step hown' hgrow); clear hown' hgrow))
      have HC2 : Hid (Acc w 34 5 [.int .i64 a, .int .i64 b, .int .i64 c, .int .i64 d] v' (k + 1) (cellsSN (plL a c b d sw (k + 1))) w5) := by
        have h := HN.out
        unfold Hid
        rw [plL_succ, cellsS_snocN, HV.out]
        exact h
      clear hmn a0 a1 a2 a3
      go_roundw
      case rel => exact ⟨k + 1, _, by omega, by go_num, rfl, HC2⟩
      case measure => simp [intOf]; omega
    · obtain rfl : k = m := by omega
      go_wp2_with fail
      go_ret2
      exact lines_of_acc hR.out (plL_len _ _ _ _ _ _) HR.out.1 HR.out.2
theorem own_fresh9 {w w1 : World} {T : TypeId} {z n : Nat} {cs : List Value} {v : Value} {xs : List Value} (h : Acc w T z cs v n xs w1) : Acc w T z cs (.slice (some ⟨w1.heap.size, 0, none⟩) 0 0) 0 [] (w1.alloc (.cells #[] T)) := acc_start T z h.2.1 h.2.2
def sLen9 : Value → Nat
  | .slice _ n _ => n
  | _ => 0
set_option maxRecDepth 20000 in
set_option maxHeartbeats 6400000 in
theorem plan_spec (a b c d sw : Int) (w : World) :
    Calls Try.prog 17 #[.agg #[.int .i64 a, .int .i64 b, .int .i64 c, .int .i64 d], .int .i64 sw] w (LinesPost (plR a b c d sw) (plK a b c d sw) w) := by
  obtain ⟨i0, hi, hz0, hz1, hz2⟩ := info_parts infoSoundN
  have HI := Lib.hid (And.intro hi (And.intro hz0 (And.intro hz1 hz2)))
  clear hi hz0 hz1 hz2
  have HB0 := Lib.hid (box1 (w := w) (cs := #[.int .i64 a, .int .i64 b, .int .i64 c, .int .i64 d]) (T := 25) (Below.refl _ _))
  have HN0 : Hid (Acc w 34 5 [.int .i64 a, .int .i64 b, .int .i64 c, .int .i64 d] (.slice (some ⟨w.heap.size + 1, 0, none⟩) 0 0) 0 [] ((w.alloc (.cells #[.int .i64 a, .int .i64 b, .int .i64 c, .int .i64 d] 25)).alloc (.cells #[] 34))) := Lib.hid (by have h := acc_start 34 5 HB0.out.1 HB0.out.2; rwa [World.size_alloc] at h)
  rcases h1 : boxB a b c d with _ | _
  · have HX1 := Lib.hid h1
    have HR := Lib.hid (plR_no (a := a) (b := b) (c := c) (d := d) (sw := sw) (by unfold plF; rw [h1]; rfl))
    clear h1
    go_enter Try.func17, Try.ntmps17
    go_wp2_with fail
    refine (l2Box_any _ _ _ _ _).mono ?_
    rintro e w1 ⟨he, hb⟩
    rw [HX1.out] at he
    subst he
    have HX := Lib.hid (HN0.out.next hb)
    clear hb
    obtain ⟨a0, a1, a2, a3⟩ := box_fourB HX.out.2.2
    go_wp2_with fail
    go_ret2
    exact lines_of_acc (L := []) HX.out rfl HR.out.1 HR.out.2
  have HX1 := Lib.hid h1
  by_cases h2 : a = c
  · have HR := Lib.hid (plR_no (a := a) (b := b) (c := c) (d := d) (sw := sw) (by unfold plF; rw [decide_eq_false (by omega)]; simp))
    clear h1
    subst h2
    go_enter Try.func17, Try.ntmps17
    go_wp2_with fail
    refine (l2Box_any _ _ _ _ _).mono ?_
    rintro e w1 ⟨he, hb⟩
    rw [HX1.out] at he
    subst he
    have HX := Lib.hid (HN0.out.next hb)
    clear hb
    obtain ⟨a0, a1, a2, a3⟩ := box_fourB HX.out.2.2
    go_wp2_with fail
    go_ret2
    exact lines_of_acc (L := []) HX.out rfl HR.out.1 HR.out.2
  have hn2 : (a == c) = false := beq_eq_false_iff_ne.2 h2
  rcases h3 : inB sw 1 300 with _ | _
  · have HR := Lib.hid (plR_no (a := a) (b := b) (c := c) (d := d) (sw := sw) (by unfold plF; rw [h3]; simp))
    have HX3 := Lib.hid h3
    clear h1 h3
    go_enter Try.func17, Try.ntmps17
    go_wp2_with fail
    refine (l2Box_any _ _ _ _ _).mono ?_
    rintro e w1 ⟨he, hb⟩
    rw [HX1.out] at he
    subst he
    have HX := Lib.hid (HN0.out.next hb)
    clear hb
    obtain ⟨a0, a1, a2, a3⟩ := box_fourB HX.out.2.2
    go_wp2_with fail
    refine (l1In_v _ _ _ _ HX3.out _).mono ?_
    rintro e w' ⟨rfl, rfl⟩
    go_wp2_with fail
    go_ret2
    exact lines_of_acc (L := []) HX.out rfl HR.out.1 HR.out.2
  have HX3 := Lib.hid h3
  obtain ⟨⟨p1, p2, p3⟩, p4, p5, p6⟩ := boxB_yes h1
  obtain ⟨p7, p8⟩ := inB_yes h3
  have HPF : Hid (plF a b c d sw = true) := by unfold Hid plF; rw [h1, h3, decide_eq_true (show a ≠ c by omega)]; rfl
  have HPE := Lib.hid (plM_end (s := b) (n := d) (sw := sw) p7 p5)
  obtain ⟨m, hm⟩ : ∃ m, plM b d sw = m := ⟨_, rfl⟩
  have HME := Lib.hid hm
  rw [hm] at HPE
  clear h1 h3 hm
  go_enter Try.func17, Try.ntmps17
  go_wp2_with fail
  refine (l2Box_any _ _ _ _ _).mono ?_
  rintro e w1 ⟨he, hb⟩
  rw [HX1.out] at he
  subst he
  have HX := Lib.hid (HN0.out.next hb)
  clear hb
  obtain ⟨a0, a1, a2, a3⟩ := box_fourB HX.out.2.2
  go_wp2_with fail
  refine (l1In_v _ _ _ _ HX3.out _).mono ?_
  rintro e w' ⟨rfl, rfl⟩
  go_wp2_with fail
  have HAC : Hid (Acc w 34 5 [.int .i64 a, .int .i64 b, .int .i64 c, .int .i64 d] (.slice (some ⟨w.heap.size + 1, 0, none⟩) 0 0) 0 (cellsSN (plL a c b d sw 0)) w1) := HX
  clear a0 a1 a2 a3
  go_loopw [6, 7] (fun s z wr => ∃ (k : Nat) (x : Int) (A : Option Addr) (cap : Nat), k ≤ 8 ∧ 0 ≤ x ∧ x ≤ 1300 ∧ s = .slice A k cap ∧ z = .int .i64 x ∧ Hid (x = plSeen b d sw k) ∧ Hid (∀ j, 0 < j → j < k → plSeen b d sw j < d) ∧ Hid (Acc w 34 5 [.int .i64 a, .int .i64 b, .int .i64 c, .int .i64 d] (.slice A k cap) k (cellsSN (plL a c b d sw k)) wr)) (fun s _ _ => 9 - sLen9 s)
  case atStart => exact ⟨0, b, _, _, Nat.zero_le _, by omega, by omega, rfl, rfl, Lib.hid rfl, Lib.hid (fun j h1 h2 => absurd h2 (by omega)), HAC⟩
  case round =>
    obtain ⟨k, x, A, cap, hk, hx0, hx1, rfl, rfl, hX, hU, hR⟩ := hrel
    rcases k with _ | k
    · obtain ⟨a0, a1, a2, a3⟩ := box_fourB hR.out.2.2
      obtain ⟨y, hy⟩ : ∃ y, min (x + sw) d = y := ⟨_, rfl⟩
      have hyb : 0 ≤ y ∧ y ≤ 1000 := by omega
      have HYE := Lib.hid hy
      have HV : Hid (plV a c b d sw (0) = ⟨((0 : Nat) : Int) + 1, y, a, c, sw⟩) := by unfold Hid plV; rw [← hX.out, hy]
      have HX2 : Hid (y + sw = plSeen b d sw (0 + 1)) := by unfold Hid; rw [plSeen, ← hX.out, hy]
      have HU2 : Hid (∀ j, 0 < j → j < 0 + 1 → plSeen b d sw j < d) := Lib.hid fun j h1 h2 => absurd h2 (by omega)
      clear hy
      go_wp2_with fail
      refine (least_v _ _ y HYE.out _).mono ?_
      rintro e w' ⟨rfl, rfl⟩
      go_upto_region 8 with (at_builtin; go_loud (refine wpList_append_own _ rfl _ _ 28 rfl (w.heap.size + 1) 34 i0 (.agg #[.int .i64 0, .int .i64 0, .int .i64 0, .int .i64 0, .int .i64 0]) 5 40 Try.underlying28 HI.out.1 HI.out.2.1 HI.out.2.2.1 HI.out.2.2.2 rfl (by decide) _ _ _ rfl (hR.out.1.alloc _) ⟨wr.heap.size, 0, none⟩ 1 1 [.int .i64 (((0 : Nat) : Int) + 1), .int .i64 y, .int .i64 a, .int .i64 c, .int .i64 sw] rfl rfl (five_newN wr ⟨((0 : Nat) : Int) + 1, y, a, c, sw⟩ _) (by simp [Value.oneCell']) (by unfold maxLen; omega) (by omega) (by have := hR.out.2.1.size; have := hR.out.2.2.1; simp; omega) ?_; intro v' w5 hown' hgrow _; have HN := Lib.hid (hR.out.step hown' hgrow); clear hown' hgrow))
      obtain ⟨A2, cap2, hv2⟩ := own_slice HN.out.1
      have hv2' : v' = .slice A2 (1) cap2 := hv2
      clear hv2
      subst hv2'
      have HC2 : Hid (Acc w 34 5 [.int .i64 a, .int .i64 b, .int .i64 c, .int .i64 d] (.slice A2 (0 + 1) cap2) (0 + 1) (cellsSN (plL a c b d sw (0 + 1))) w5) := by
        have h := HN.out
        unfold Hid
        rw [plL_succ, cellsS_snocN, HV.out]
        exact h
      clear a0 a1 a2 a3
      go_wp2_with fail
      go_roundw
      case rel => exact ⟨1, y + sw, A2, cap2, by omega, by omega, by omega, rfl, rfl, HX2, HU2, HC2⟩
      case measure => simp [sLen9]
    have hne : (((k + 1 : Nat) : Int) == 0) = false := beq_eq_false_iff_ne.2 (by omega)
    have hne2 : ((k : Int) + 1 == 0) = false := beq_eq_false_iff_ne.2 (by omega)
    by_cases hc : x < d
    · by_cases h8 : k + 1 = 8
      · obtain rfl : k = 7 := by omega
        obtain ⟨a0, a1, a2, a3⟩ := box_fourB hR.out.2.2
        obtain ⟨y, hy⟩ : ∃ y, min (x + sw) d = y := ⟨_, rfl⟩
        have hyb : 0 ≤ y ∧ y ≤ 1000 := by omega
        have HYE := Lib.hid hy
        have HV : Hid (plV a c b d sw (7 + 1) = ⟨((7 + 1 : Nat) : Int) + 1, y, a, c, sw⟩) := by unfold Hid plV; rw [← hX.out, hy]
        have HX2 : Hid (y + sw = plSeen b d sw (7 + 1 + 1)) := by unfold Hid; rw [plSeen, ← hX.out, hy]
        have HU2 : Hid (∀ j, 0 < j → j < 7 + 1 + 1 → plSeen b d sw j < d) := Lib.hid fun j h1 h2 => by
          rcases Nat.lt_or_ge j (7 + 1) with h | h
          · exact hU.out j h1 h
          · obtain rfl : j = 7 + 1 := by omega
            rw [← hX.out]; exact hc
        clear hy
        go_wp2_with fail
        refine (least_v _ _ y HYE.out _).mono ?_
        rintro e w' ⟨rfl, rfl⟩
        go_upto_region 8 with (at_builtin; go_loud (refine wpList_append_own _ rfl _ _ 28 rfl (w.heap.size + 1) 34 i0 (.agg #[.int .i64 0, .int .i64 0, .int .i64 0, .int .i64 0, .int .i64 0]) 5 40 Try.underlying28 HI.out.1 HI.out.2.1 HI.out.2.2.1 HI.out.2.2.2 rfl (by decide) _ _ _ rfl (hR.out.1.alloc _) ⟨wr.heap.size, 0, none⟩ 1 1 [.int .i64 (((7 + 1 : Nat) : Int) + 1), .int .i64 y, .int .i64 a, .int .i64 c, .int .i64 sw] rfl rfl (five_newN wr ⟨((7 + 1 : Nat) : Int) + 1, y, a, c, sw⟩ _) (by simp [Value.oneCell']) (by unfold maxLen; omega) (by omega) (by have := hR.out.2.1.size; have := hR.out.2.2.1; simp; omega) ?_; intro v' w5 hown' hgrow _; have HN := Lib.hid (hR.out.step hown' hgrow); clear hown' hgrow))
        obtain ⟨A2, cap2, hv2⟩ := own_slice HN.out.1
        have hv2' : v' = .slice A2 (9) cap2 := hv2
        clear hv2
        subst hv2'
        have HC2 : Hid (Acc w 34 5 [.int .i64 a, .int .i64 b, .int .i64 c, .int .i64 d] (.slice A2 (7 + 1 + 1) cap2) (7 + 1 + 1) (cellsSN (plL a c b d sw (7 + 1 + 1))) w5) := by
          have h := HN.out
          unfold Hid
          rw [plL_succ, cellsS_snocN, HV.out]
          exact h
        clear a0 a1 a2 a3
        have HR := Lib.hid (plR_many (a := a) (b := b) (c := c) (d := d) (sw := sw) (by
          rw [HME.out]
          intro hm8
          have h1 := HU2.out m HPE.out.pos (by omega)
          have h2 := HPE.out.seen
          omega))
        have HF := Lib.hid (own_fresh9 HC2.out)
        go_wp2_with fail
        go_ret2
        exact lines_of_acc (L := []) HF.out rfl HR.out.1 HR.out.2
      · obtain ⟨a0, a1, a2, a3⟩ := box_fourB hR.out.2.2
        obtain ⟨y, hy⟩ : ∃ y, min (x + sw) d = y := ⟨_, rfl⟩
        have hyb : 0 ≤ y ∧ y ≤ 1000 := by omega
        have HYE := Lib.hid hy
        have HV : Hid (plV a c b d sw (k + 1) = ⟨((k + 1 : Nat) : Int) + 1, y, a, c, sw⟩) := by unfold Hid plV; rw [← hX.out, hy]
        have HX2 : Hid (y + sw = plSeen b d sw (k + 1 + 1)) := by unfold Hid; rw [plSeen, ← hX.out, hy]
        have HU2 : Hid (∀ j, 0 < j → j < k + 1 + 1 → plSeen b d sw j < d) := Lib.hid fun j h1 h2 => by
          rcases Nat.lt_or_ge j (k + 1) with h | h
          · exact hU.out j h1 h
          · obtain rfl : j = k + 1 := by omega
            rw [← hX.out]; exact hc
        clear hy
        go_wp2_with fail
        refine (least_v _ _ y HYE.out _).mono ?_
        rintro e w' ⟨rfl, rfl⟩
        go_upto_region 8 with (at_builtin; go_loud (refine wpList_append_own _ rfl _ _ 28 rfl (w.heap.size + 1) 34 i0 (.agg #[.int .i64 0, .int .i64 0, .int .i64 0, .int .i64 0, .int .i64 0]) 5 40 Try.underlying28 HI.out.1 HI.out.2.1 HI.out.2.2.1 HI.out.2.2.2 rfl (by decide) _ _ _ rfl (hR.out.1.alloc _) ⟨wr.heap.size, 0, none⟩ 1 1 [.int .i64 (((k + 1 : Nat) : Int) + 1), .int .i64 y, .int .i64 a, .int .i64 c, .int .i64 sw] rfl rfl (five_newN wr ⟨((k + 1 : Nat) : Int) + 1, y, a, c, sw⟩ _) (by simp [Value.oneCell']) (by unfold maxLen; omega) (by omega) (by have := hR.out.2.1.size; have := hR.out.2.2.1; simp; omega) ?_; intro v' w5 hown' hgrow _; have HN := Lib.hid (hR.out.step hown' hgrow); clear hown' hgrow))
        obtain ⟨A2, cap2, hv2⟩ := own_slice HN.out.1
        have hv2' : v' = .slice A2 (k + 1 + 1) cap2 := hv2
        clear hv2
        subst hv2'
        have HC2 : Hid (Acc w 34 5 [.int .i64 a, .int .i64 b, .int .i64 c, .int .i64 d] (.slice A2 (k + 1 + 1) cap2) (k + 1 + 1) (cellsSN (plL a c b d sw (k + 1 + 1))) w5) := by
          have h := HN.out
          unfold Hid
          rw [plL_succ, cellsS_snocN, HV.out]
          exact h
        clear a0 a1 a2 a3
        go_wp2_with fail
        go_roundw
        case rel => exact ⟨k + 1 + 1, y + sw, A2, cap2, by omega, by omega, by omega, rfl, rfl, HX2, HU2, HC2⟩
        case measure => simp [sLen9]; omega
    · have hkm := plEnd_one ⟨by omega, hU.out, by rw [← hX.out]; omega⟩ HPE.out
      have HR := Lib.hid (plR_yes (a := a) (b := b) (c := c) (d := d) (sw := sw) HPF.out (by rw [HME.out]; omega))
      rw [HME.out, ← hkm] at HR
      clear hkm
      obtain ⟨a0, a1, a2, a3⟩ := box_fourB hR.out.2.2
      go_wp2_with fail
      go_ret2
      exact lines_of_acc hR.out (plL_len _ _ _ _ _ _) HR.out.1 HR.out.2
end Go.Proofs.Ytdmnkmdlochogab
