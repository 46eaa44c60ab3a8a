/-
  Cells and lines: contracts of impl.isCellIn, stripOf, spec.l9Side, l9Cell, l9Covers, l9Count, l9Whole over this translation. Conditions: stated at each theorem.
-/
import Derived.Test.YtagfgaohdpoegaaLo
namespace Go.Proofs.Ytagfgaohdpoegaa
open Go.RowKit
set_option linter.unusedVariables false

theorem whB_in (x s e n : Int) (r c : Nat) (a b : Bool) (h1 : inB ((r : Int) * 50) s (n - 50) = a) (h2 : inB ((c : Int) * 50) x (e - 50) = b) : whB x s e n r c = (a && b) := by
  subst h1; subst h2
  unfold whB inB
  by_cases p1 : s ≤ (r : Int) * 50 <;> by_cases p2 : (r : Int) * 50 + 50 ≤ n <;> by_cases p3 : x ≤ (c : Int) * 50 <;> by_cases p4 : (c : Int) * 50 + 50 ≤ e <;> simp [p1, p2, p3, p4] <;> omega
theorem cv_wh (v : LN) (r c : Int) : cvB v r c = whB v.fr (v.y - v.sw) v.to (v.y + v.sw) r c := rfl
def Mid9 (n : Int) : Prop := -2000 ≤ n ∧ n ≤ 2000
set_option maxHeartbeats 800000 in
theorem cellIn_impl (r c : Nat) (x s e n : Int) (v : Bool) (h : whB x s e n r c = v) (hr : r < 20) (hc : c < 20) (h1 : Mid9 x) (h2 : Mid9 s) (h3 : Mid9 e) (h4 : Mid9 n) (w : World) :
    Calls Try.prog 73 #[.int .i64 r, .int .i64 c, .agg #[.int .i64 x, .int .i64 s, .int .i64 e, .int .i64 n]] w fun z w' => z = .returned (.bool v) ∧ Below w.heap.size w w' := by
  subst h
  unfold Mid9 at h1 h2 h3 h4
  rcases p1 : inB ((r : Int) * 50) s (n - 50) with _ | _
  · have HR : Hid (whB x s e n r c = false) := by unfold Hid; rw [whB_in x s e n r c _ _ p1 rfl]; rfl
    have H1 := Lib.hid p1
    clear p1
    go_enter Try.func73, Try.ntmps73
    go_wp2_with fail
    refine (within_v _ _ _ _ H1.out _).mono ?_
    rintro e w' ⟨rfl, rfl⟩
    go_wp2_with fail
    go_ret
    exact ⟨ret_bool HR.out.symm, (by repeat (first | exact Below.refl _ _ | refine Below.alloc ?_ (by simp; try omega) _ | refine Below.setCell ?_ (by simp; try omega) _))⟩
  · obtain ⟨b, p2⟩ : ∃ b, inB ((c : Int) * 50) x (e - 50) = b := ⟨_, rfl⟩
    have HR : Hid (whB x s e n r c = b) := by unfold Hid; rw [whB_in x s e n r c _ _ p1 p2]; rfl
    have H1 := Lib.hid p1
    have H2 := Lib.hid p2
    clear p1 p2
    go_enter Try.func73, Try.ntmps73
    go_wp2_with fail
    refine (within_v _ _ _ _ H1.out _).mono ?_
    rintro e w' ⟨rfl, rfl⟩
    go_wp2_with fail
    refine (within_v _ _ _ _ H2.out _).mono ?_
    rintro e w' ⟨rfl, rfl⟩
    go_wp2_with fail
    go_ret
    exact ⟨ret_bool HR.out.symm, (by repeat (first | exact Below.refl _ _ | refine Below.alloc ?_ (by simp; try omega) _ | refine Below.setCell ?_ (by simp; try omega) _))⟩
theorem strip_impl (v : LN) (hv : lnB v = true) (w : World) :
    Calls Try.prog 89 #[.agg #[.int .i64 v.id, .int .i64 v.y, .int .i64 v.fr, .int .i64 v.to, .int .i64 v.sw]] w fun z w' => z = .returned (.agg #[.int .i64 v.fr, .int .i64 (v.y - v.sw), .int .i64 v.to, .int .i64 (v.y + v.sw)]) ∧ Below w.heap.size w w' := by
  obtain ⟨q1, q2, q3, q4, q5, q6⟩ := lnB_parts hv
  clear hv
  go_enter Try.func89, Try.ntmps89
  go_wp2
  refine bodyPost_ret (v := .agg #[.int .i64 v.fr, .int .i64 (v.y - v.sw), .int .i64 v.to, .int .i64 (v.y + v.sw)]) (by simp [results, Try.results89, go_sem]) rfl ⟨rfl, ?_⟩
  repeat (first | exact Below.refl _ _ | refine Below.setCell ?_ (by simp; try omega) _ | refine Below.alloc ?_ (by simp; try omega) _)
theorem side_spec (w : World) : Calls Try.prog 67 #[.int .i64 1000] w fun e w' => e = .returned (.int .i64 20) ∧ w = w' := by
  go_enter Try.func67, Try.ntmps67
  go_wp2_with fail
  go_ret
  exact ⟨rfl, rfl⟩
/-- Does the cell occur? -/
def ceB (r c : Int) : Bool := inB r 0 19 && inB c 0 19
theorem cell_spec (r c : Int) (v : Bool) (h : ceB r c = v) (w : World) :
    Calls Try.prog 78 #[.int .i64 r, .int .i64 c] w fun e w' => e = .returned (.bool v) ∧ w = w' := by
  subst h
  rcases p1 : inB r 0 19 with _ | _
  · have HR : Hid (ceB r c = false) := by unfold Hid ceB; rw [p1]; rfl
    have H1 := Lib.hid p1
    clear p1
    go_enter Try.func78, Try.ntmps78
    go_wp2_with fail
    refine (side_spec _).mono ?_
    rintro e w' ⟨rfl, rfl⟩
    go_wp2_with fail
    refine (l1In_v _ _ _ _ H1.out _).mono ?_
    rintro e w' ⟨rfl, rfl⟩
    go_wp2_with fail
    go_ret
    exact ⟨ret_bool HR.out.symm, rfl⟩
  · obtain ⟨b, p2⟩ : ∃ b, inB c 0 19 = b := ⟨_, rfl⟩
    have HR : Hid (ceB r c = b) := by unfold Hid ceB; rw [p1, p2]; rfl
    have H1 := Lib.hid p1
    have H2 := Lib.hid p2
    clear p1 p2
    go_enter Try.func78, Try.ntmps78
    go_wp2_with fail
    refine (side_spec _).mono ?_
    rintro e w' ⟨rfl, rfl⟩
    go_wp2_with fail
    refine (l1In_v _ _ _ _ H1.out _).mono ?_
    rintro e w' ⟨rfl, rfl⟩
    go_wp2_with fail
    refine (side_spec _).mono ?_
    rintro e w' ⟨rfl, rfl⟩
    go_wp2_with fail
    refine (l1In_v _ _ _ _ H2.out _).mono ?_
    rintro e w' ⟨rfl, rfl⟩
    go_wp2_with fail
    go_ret
    exact ⟨ret_bool HR.out.symm, rfl⟩
set_option maxHeartbeats 800000 in
theorem covers_spec (u : LN) (r c : Nat) (v : Bool) (h : cvB u r c = v) (hr : r < 20) (hc : c < 20) (hu : lnB u = true) (w : World) :
    Calls Try.prog 97 #[.agg #[.int .i64 u.id, .int .i64 u.y, .int .i64 u.fr, .int .i64 u.to, .int .i64 u.sw], .int .i64 r, .int .i64 c] w fun z w' => z = .returned (.bool v) ∧ Below w.heap.size w w' := by
  subst h
  obtain ⟨q1, q2, q3, q4, q5, q6⟩ := lnB_parts hu
  clear hu
  by_cases p0 : u.y - u.sw ≤ (r : Int) * 50
  rotate_left
  · have HR : Hid (cvB u r c = false) := by unfold Hid; unfold cvB; simp [p0]
    go_enter Try.func97, Try.ntmps97
    go_wp2_with fail
    go_ret
    exact ⟨ret_bool HR.out.symm, (by repeat (first | exact Below.refl _ _ | refine Below.alloc ?_ (by simp; try omega) _ | refine Below.setCell ?_ (by simp; try omega) _))⟩
  by_cases p1 : (r : Int) * 50 + 50 ≤ u.y + u.sw
  rotate_left
  · have HR : Hid (cvB u r c = false) := by unfold Hid; unfold cvB; simp [p0, p1]
    go_enter Try.func97, Try.ntmps97
    go_wp2_with fail
    go_ret
    exact ⟨ret_bool HR.out.symm, (by repeat (first | exact Below.refl _ _ | refine Below.alloc ?_ (by simp; try omega) _ | refine Below.setCell ?_ (by simp; try omega) _))⟩
  by_cases p2 : u.fr ≤ (c : Int) * 50
  rotate_left
  · have HR : Hid (cvB u r c = false) := by unfold Hid; unfold cvB; simp [p0, p1, p2]
    go_enter Try.func97, Try.ntmps97
    go_wp2_with fail
    go_ret
    exact ⟨ret_bool HR.out.symm, (by repeat (first | exact Below.refl _ _ | refine Below.alloc ?_ (by simp; try omega) _ | refine Below.setCell ?_ (by simp; try omega) _))⟩
  by_cases p3 : (c : Int) * 50 + 50 ≤ u.to
  rotate_left
  · have HR : Hid (cvB u r c = false) := by unfold Hid; unfold cvB; simp [p0, p1, p2, p3]
    go_enter Try.func97, Try.ntmps97
    go_wp2_with fail
    go_ret
    exact ⟨ret_bool HR.out.symm, (by repeat (first | exact Below.refl _ _ | refine Below.alloc ?_ (by simp; try omega) _ | refine Below.setCell ?_ (by simp; try omega) _))⟩
  have HR : Hid (cvB u r c = true) := by unfold Hid; unfold cvB; simp [p0, p1, p2, p3]
  go_enter Try.func97, Try.ntmps97
  go_wp2_with fail
  go_ret
  exact ⟨ret_bool HR.out.symm, (by repeat (first | exact Below.refl _ _ | refine Below.alloc ?_ (by simp; try omega) _ | refine Below.setCell ?_ (by simp; try omega) _))⟩
set_option maxHeartbeats 800000 in
theorem whole_spec (x s e n : Int) (r c : Nat) (v : Bool) (h : whB x s e n r c = v) (hr : r < 20) (hc : c < 20) (h1 : Mid9 x) (h2 : Mid9 s) (h3 : Mid9 e) (h4 : Mid9 n) (w : World) :
    Calls Try.prog 75 #[.agg #[.int .i64 x, .int .i64 s, .int .i64 e, .int .i64 n], .int .i64 r, .int .i64 c] w fun z w' => z = .returned (.bool v) ∧ Below w.heap.size w w' := by
  subst h
  unfold Mid9 at h1 h2 h3 h4
  by_cases p0 : s ≤ (r : Int) * 50
  rotate_left
  · have HR : Hid (whB x s e n r c = false) := by unfold Hid; unfold whB; simp [p0]
    go_enter Try.func75, Try.ntmps75
    go_wp2_with fail
    go_ret
    exact ⟨ret_bool HR.out.symm, (by repeat (first | exact Below.refl _ _ | refine Below.alloc ?_ (by simp; try omega) _ | refine Below.setCell ?_ (by simp; try omega) _))⟩
  by_cases p1 : (r : Int) * 50 + 50 ≤ n
  rotate_left
  · have HR : Hid (whB x s e n r c = false) := by unfold Hid; unfold whB; simp [p0, p1]
    go_enter Try.func75, Try.ntmps75
    go_wp2_with fail
    go_ret
    exact ⟨ret_bool HR.out.symm, (by repeat (first | exact Below.refl _ _ | refine Below.alloc ?_ (by simp; try omega) _ | refine Below.setCell ?_ (by simp; try omega) _))⟩
  by_cases p2 : x ≤ (c : Int) * 50
  rotate_left
  · have HR : Hid (whB x s e n r c = false) := by unfold Hid; unfold whB; simp [p0, p1, p2]
    go_enter Try.func75, Try.ntmps75
    go_wp2_with fail
    go_ret
    exact ⟨ret_bool HR.out.symm, (by repeat (first | exact Below.refl _ _ | refine Below.alloc ?_ (by simp; try omega) _ | refine Below.setCell ?_ (by simp; try omega) _))⟩
  by_cases p3 : (c : Int) * 50 + 50 ≤ e
  rotate_left
  · have HR : Hid (whB x s e n r c = false) := by unfold Hid; unfold whB; simp [p0, p1, p2, p3]
    go_enter Try.func75, Try.ntmps75
    go_wp2_with fail
    go_ret
    exact ⟨ret_bool HR.out.symm, (by repeat (first | exact Below.refl _ _ | refine Below.alloc ?_ (by simp; try omega) _ | refine Below.setCell ?_ (by simp; try omega) _))⟩
  have HR : Hid (whB x s e n r c = true) := by unfold Hid; unfold whB; simp [p0, p1, p2, p3]
  go_enter Try.func75, Try.ntmps75
  go_wp2_with fail
  go_ret
  exact ⟨ret_bool HR.out.symm, (by repeat (first | exact Below.refl _ _ | refine Below.alloc ?_ (by simp; try omega) _ | refine Below.setCell ?_ (by simp; try omega) _))⟩
theorem cvK_hit {L : List LN} {r c : Int} {k : Nat} {u : LN} (h : L[k]? = some u) (hb : cvB u r c = true) : cvK L r c (k + 1) = cvK L r c k + 1 := by rw [cvK, lnAt_at h, hb]; rfl
theorem cvK_miss {L : List LN} {r c : Int} {k : Nat} {u : LN} (h : L[k]? = some u) (hb : cvB u r c = false) : cvK L r c (k + 1) = cvK L r c k := by rw [cvK, lnAt_at h, hb]; rfl
set_option maxRecDepth 20000 in
set_option maxHeartbeats 1600000 in
theorem count_spec (A : Option Addr) (n c0 : Nat) (L : List LN) (r c : Nat) (m : Nat) (hm : cvN L r c = m) (w : World) (hs : SdsN w w.heap.size A n L) (hg : Good9 L) (hr : r < 20) (hc : c < 20) :
    Calls Try.prog 68 #[.slice A n c0, .int .i64 r, .int .i64 c] w fun e w' => e = .returned (.int .i64 m) ∧ Below w.heap.size w w' := by
  obtain rfl := hs.1
  have h8 := hg.max
  have HS := Lib.hid hs
  have HG := Lib.hid hg
  have HM := Lib.hid hm
  clear hs hg hm
  go_enter Try.func68, Try.ntmps68
  go_wp2_with fail
  go_loopw [7, 8] (fun a i wr => ∃ k m : Nat, k ≤ L.length ∧ m ≤ k ∧ i = .int .i64 k ∧ a = .int .i64 m ∧ Hid (m = cvK L r c k) ∧ Hid (Below w.heap.size w wr)) (fun _ i _ => L.length - (intOf i).toNat)
  case atStart => exact ⟨0, 0, Nat.zero_le _, Nat.le_refl _, rfl, rfl, Lib.hid rfl, Lib.hid (Below.refl _ _)⟩
  case round =>
    obtain ⟨k, m1, hk, hmk, rfl, rfl, hA, hB⟩ := hrel
    by_cases hlt : k < L.length
    · obtain ⟨b, o, u, rfl, hbl, hL, c0, c1, c2, c3, c4⟩ := (sds_atN HS.out hB.out).2 k hlt
      have HU := Lib.hid (HG.out.mem (List.mem_of_getElem? hL))
      rcases hv : cvB u r c with _ | _
      · have HV := Lib.hid hv
        have HN : Hid (m1 = cvK L r c (k + 1)) := Lib.hid (hA.out.trans (cvK_miss hL hv).symm)
        clear hv hL
        go_wp2_with fail
        refine (covers_spec u r c _ HV.out hr hc HU.out _).mono ?_
        rintro e w1 ⟨rfl, hb⟩
        have HB1 := Lib.hid (bthen hB.out hb hB.out.size)
        clear hb c0 c1 c2 c3 c4
        go_wp2_with fail
        go_roundw
        case rel => exact ⟨k + 1, m1, by omega, by omega, by go_num, rfl, HN, HB1⟩
        case measure => simp [intOf]; omega
      · have HV := Lib.hid hv
        have HN : Hid (m1 + 1 = cvK L r c (k + 1)) := Lib.hid (by rw [cvK_hit hL hv, ← hA.out])
        clear hv hL
        go_wp2_with fail
        refine (covers_spec u r c _ HV.out hr hc HU.out _).mono ?_
        rintro e w1 ⟨rfl, hb⟩
        have HB1 := Lib.hid (bthen hB.out hb hB.out.size)
        clear hb c0 c1 c2 c3 c4
        go_wp2_with fail
        go_roundw
        case rel => exact ⟨k + 1, m1 + 1, by omega, by omega, by go_num, by go_num, HN, HB1⟩
        case measure => simp [intOf]; omega
    · obtain rfl : k = L.length := by omega
      obtain rfl : m1 = m := hA.out.trans HM.out
      go_wp2_with fail
      go_ret
      exact ⟨rfl, hB.out⟩
end Go.Proofs.Ytagfgaohdpoegaa
