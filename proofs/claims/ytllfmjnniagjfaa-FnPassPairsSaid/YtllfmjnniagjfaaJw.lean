/-
  Passes: contracts of impl.isTime, isLogged, isPeriod, IsPass, ArePasses, spec.l2Time, l11Line, l11One, l11Good, IsPass, ArePasses over this translation. Conditions: stated at each theorem.
-/
import Derived.Test.YtllfmjnniagjfaaJo
import Derived.Test.YtllfmjnniagjfaaPerm
namespace Go.Proofs.Ytllfmjnniagjfaa
open Go.RowKit
set_option linter.unusedVariables false
set_option linter.unusedSimpArgs false

theorem timeJ_impl (n : Int) (v : Bool) (h : inB n 0 10000 = v) (w : World) :
    Calls Try.prog 101 #[.int .i64 n] w fun e w' => e = .returned (.bool v) ∧ w = w' := by
  have H := Lib.hid h
  clear h
  go_enter Try.func101, Try.ntmps101
  go_wp2_with fail
  refine (within_v _ _ _ _ H.out _).mono ?_
  rintro e w' ⟨rfl, rfl⟩
  go_wp2_with fail
  go_ret
  exact ⟨rfl, rfl⟩
theorem timeJ_spec (n : Int) (v : Bool) (h : inB n 0 10000 = v) (w : World) :
    Calls Try.prog 77 #[.int .i64 n] w fun e w' => e = .returned (.bool v) ∧ w = w' := by
  have H := Lib.hid h
  clear h
  go_enter Try.func77, Try.ntmps77
  go_wp2_with fail
  refine (l1In_v _ _ _ _ H.out _).mono ?_
  rintro e w' ⟨rfl, rfl⟩
  go_wp2_with fail
  go_ret
  exact ⟨rfl, rfl⟩
theorem lineJ_spec (n : Int) (v : Bool) (h : inB n 1 999 = v) (w : World) :
    Calls Try.prog 83 #[.int .i64 n] w fun e w' => e = .returned (.bool v) ∧ w = w' := by
  have H := Lib.hid h
  clear h
  go_enter Try.func83, Try.ntmps83
  go_wp2_with fail
  refine (l1In_v _ _ _ _ H.out _).mono ?_
  rintro e w' ⟨rfl, rfl⟩
  go_wp2_with fail
  go_ret
  exact ⟨rfl, rfl⟩
theorem logJ_impl (n : Int) (v : Bool) (h : inB n 1 999 = v) (w : World) :
    Calls Try.prog 72 #[.int .i64 n] w fun e w' => e = .returned (.bool v) ∧ w = w' := by
  have H := Lib.hid h
  clear h
  go_enter Try.func72, Try.ntmps72
  go_wp2_with fail
  refine (within_v _ _ _ _ H.out _).mono ?_
  rintro e w' ⟨rfl, rfl⟩
  go_wp2_with fail
  go_ret
  exact ⟨rfl, rfl⟩
/-- Two times with some minutes between. -/
def perB (f t : Int) : Bool := inB f 0 10000 && inB t 0 10000 && decide (f < t)
theorem per_is {f t : Int} (h : perB f t = true) : 0 ≤ f ∧ f < t ∧ t ≤ 10000 := by
  unfold perB at h
  simp only [Bool.and_eq_true, decide_eq_true_eq] at h
  have h1 := inB_yes h.1.1
  have h2 := inB_yes h.1.2
  omega
theorem per_bs (f t : Int) : perB f t = (inB t 0 10000 && inB f 0 (t - 1)) := by
  unfold perB inB
  rw [Bool.eq_iff_iff]
  simp only [Bool.and_eq_true, decide_eq_true_eq]
  omega
theorem period_impl (f t : Int) (v : Bool) (h : perB f t = v) (w : World) :
    Calls Try.prog 76 #[.int .i64 f, .int .i64 t] w fun e w' => e = .returned (.bool v) ∧ w = w' := by
  unfold perB at h
  rcases h1 : inB f 0 10000 with _ | _
  · have H1 := Lib.hid h1
    have HR : Hid (false = v) := by unfold Hid; rw [← h, h1]; rfl
    clear h h1
    go_enter Try.func76, Try.ntmps76
    go_wp2_with fail
    refine (timeJ_impl _ _ H1.out _).mono ?_
    rintro e w' ⟨rfl, rfl⟩
    go_wp2_with fail
    go_ret
    exact ⟨ret_bool HR.out, rfl⟩
  have H1 := Lib.hid h1
  rcases h2 : inB t 0 10000 with _ | _
  · have H2 := Lib.hid h2
    have HR : Hid (false = v) := by unfold Hid; rw [← h, h1, h2]; rfl
    clear h h1 h2
    go_enter Try.func76, Try.ntmps76
    go_wp2_with fail
    refine (timeJ_impl _ _ H1.out _).mono ?_
    rintro e w' ⟨rfl, rfl⟩
    go_wp2_with fail
    refine (timeJ_impl _ _ H2.out _).mono ?_
    rintro e w' ⟨rfl, rfl⟩
    go_wp2_with fail
    go_ret
    exact ⟨ret_bool HR.out, rfl⟩
  have H2 := Lib.hid h2
  have HR : Hid (decide (f < t) = v) := by unfold Hid; rw [← h, h1, h2]; rfl
  clear h h1 h2
  go_enter Try.func76, Try.ntmps76
  go_wp2_with fail
  refine (timeJ_impl _ _ H1.out _).mono ?_
  rintro e w' ⟨rfl, rfl⟩
  go_wp2_with fail
  refine (timeJ_impl _ _ H2.out _).mono ?_
  rintro e w' ⟨rfl, rfl⟩
  go_wp2_with fail
  go_ret
  exact ⟨ret_bool HR.out, rfl⟩
set_option maxHeartbeats 1600000 in
theorem ps_impl (v : PS) (r : Bool) (h : psB v = r) (w : World) :
    Calls Try.prog 42 #[.agg #[.int .i64 v.ln, .int .i64 v.bg, .int .i64 v.en, .int .i64 v.pi, .int .i64 v.bd, .int .i64 v.co]] w fun e w' => e = .returned (.bool r) ∧ Below w.heap.size w w' := by
  subst h
  rcases h1 : inB v.ln 1 999 with _ | _
  · have HR : Hid (psB v = false) := Lib.hid (psB_no fun g => by simp [inB, perB] at h1; have := g.l0; have := g.l1; have := g.b0; have := g.be; have := g.e1; have := g.p0; have := g.p1; have := g.d0; have := g.d1; have := g.c0; have := g.c1; omega)
    have H1 := Lib.hid h1
    clear h1
    go_enter Try.func42, Try.ntmps42
    go_wp2_with fail
    refine (logJ_impl _ _ H1.out _).mono ?_
    rintro e w' ⟨rfl, rfl⟩
    go_wp2_with fail
    go_ret
    exact ⟨ret_bool (by first | exact HR.out.symm | simp [HR.out]), (Below.refl _ _).alloc (Nat.le_refl _) _⟩
  rcases h2 : perB v.bg v.en with _ | _
  · have HR : Hid (psB v = false) := Lib.hid (psB_no fun g => by simp [inB, perB] at h2; have := g.l0; have := g.l1; have := g.b0; have := g.be; have := g.e1; have := g.p0; have := g.p1; have := g.d0; have := g.d1; have := g.c0; have := g.c1; omega)
    have H1 := Lib.hid h1
    have H2 := Lib.hid h2
    clear h1 h2
    go_enter Try.func42, Try.ntmps42
    go_wp2_with fail
    refine (logJ_impl _ _ H1.out _).mono ?_
    rintro e w' ⟨rfl, rfl⟩
    go_wp2_with fail
    refine (period_impl _ _ _ H2.out _).mono ?_
    rintro e w' ⟨rfl, rfl⟩
    go_wp2_with fail
    go_ret
    exact ⟨ret_bool (by first | exact HR.out.symm | simp [HR.out]), (Below.refl _ _).alloc (Nat.le_refl _) _⟩
  rcases h3 : inB v.pi 0 100000 with _ | _
  · have HR : Hid (psB v = false) := Lib.hid (psB_no fun g => by simp [inB, perB] at h3; have := g.l0; have := g.l1; have := g.b0; have := g.be; have := g.e1; have := g.p0; have := g.p1; have := g.d0; have := g.d1; have := g.c0; have := g.c1; omega)
    have H1 := Lib.hid h1
    have H2 := Lib.hid h2
    have H3 := Lib.hid h3
    clear h1 h2 h3
    go_enter Try.func42, Try.ntmps42
    go_wp2_with fail
    refine (logJ_impl _ _ H1.out _).mono ?_
    rintro e w' ⟨rfl, rfl⟩
    go_wp2_with fail
    refine (period_impl _ _ _ H2.out _).mono ?_
    rintro e w' ⟨rfl, rfl⟩
    go_wp2_with fail
    refine (within_v _ _ _ _ H3.out _).mono ?_
    rintro e w' ⟨rfl, rfl⟩
    go_wp2_with fail
    go_ret
    exact ⟨ret_bool (by first | exact HR.out.symm | simp [HR.out]), (Below.refl _ _).alloc (Nat.le_refl _) _⟩
  rcases h4 : inB v.bd 0 v.pi with _ | _
  · have HR : Hid (psB v = false) := Lib.hid (psB_no fun g => by simp [inB, perB] at h4; have := g.l0; have := g.l1; have := g.b0; have := g.be; have := g.e1; have := g.p0; have := g.p1; have := g.d0; have := g.d1; have := g.c0; have := g.c1; omega)
    have H1 := Lib.hid h1
    have H2 := Lib.hid h2
    have H3 := Lib.hid h3
    have H4 := Lib.hid h4
    clear h1 h2 h3 h4
    go_enter Try.func42, Try.ntmps42
    go_wp2_with fail
    refine (logJ_impl _ _ H1.out _).mono ?_
    rintro e w' ⟨rfl, rfl⟩
    go_wp2_with fail
    refine (period_impl _ _ _ H2.out _).mono ?_
    rintro e w' ⟨rfl, rfl⟩
    go_wp2_with fail
    refine (within_v _ _ _ _ H3.out _).mono ?_
    rintro e w' ⟨rfl, rfl⟩
    go_wp2_with fail
    refine (within_v _ _ _ _ H4.out _).mono ?_
    rintro e w' ⟨rfl, rfl⟩
    go_wp2_with fail
    go_ret
    exact ⟨ret_bool (by first | exact HR.out.symm | simp [HR.out]), (Below.refl _ _).alloc (Nat.le_refl _) _⟩
  obtain ⟨d, h5⟩ : ∃ d, inB v.co 0 359 = d := ⟨_, rfl⟩
  have HR : Hid (psB v = d) := by
    unfold Hid
    rcases d with _ | _
    · exact psB_no fun g => by simp [inB, perB] at h5; have := g.c0; have := g.c1; omega
    · refine (psB_iff v).2 ?_
      simp [inB, perB] at h1 h2 h3 h4 h5
      constructor <;> omega
  have H1 := Lib.hid h1
  have H2 := Lib.hid h2
  have H3 := Lib.hid h3
  have H4 := Lib.hid h4
  have H5 := Lib.hid h5
  clear h1 h2 h3 h4 h5
  go_enter Try.func42, Try.ntmps42
  go_wp2_with fail
  refine (logJ_impl _ _ H1.out _).mono ?_
  rintro e w' ⟨rfl, rfl⟩
  go_wp2_with fail
  refine (period_impl _ _ _ H2.out _).mono ?_
  rintro e w' ⟨rfl, rfl⟩
  go_wp2_with fail
  refine (within_v _ _ _ _ H3.out _).mono ?_
  rintro e w' ⟨rfl, rfl⟩
  go_wp2_with fail
  refine (within_v _ _ _ _ H4.out _).mono ?_
  rintro e w' ⟨rfl, rfl⟩
  go_wp2_with fail
  refine (within_v _ _ _ _ H5.out _).mono ?_
  rintro e w' ⟨rfl, rfl⟩
  go_wp2_with fail
  go_ret
  exact ⟨ret_bool (by first | exact HR.out.symm | simp [HR.out]), (Below.refl _ _).alloc (Nat.le_refl _) _⟩
set_option maxHeartbeats 1600000 in
theorem ps_one (v : PS) (r : Bool) (h : psB v = r) (w : World) :
    Calls Try.prog 95 #[.agg #[.int .i64 v.ln, .int .i64 v.bg, .int .i64 v.en, .int .i64 v.pi, .int .i64 v.bd, .int .i64 v.co]] w fun e w' => e = .returned (.bool r) ∧ Below w.heap.size w w' := by
  subst h
  rcases h1 : inB v.ln 1 999 with _ | _
  · have HR : Hid (psB v = false) := Lib.hid (psB_no fun g => by simp [inB, perB] at h1; have := g.l0; have := g.l1; have := g.b0; have := g.be; have := g.e1; have := g.p0; have := g.p1; have := g.d0; have := g.d1; have := g.c0; have := g.c1; omega)
    have H1 := Lib.hid h1
    clear h1
    go_enter Try.func95, Try.ntmps95
    go_wp2_with fail
    refine (lineJ_spec _ _ H1.out _).mono ?_
    rintro e w' ⟨rfl, rfl⟩
    go_wp2_with fail
    go_ret
    exact ⟨ret_bool (by first | exact HR.out.symm | simp [HR.out]), (Below.refl _ _).alloc (Nat.le_refl _) _⟩
  rcases h2 : inB v.en 0 10000 with _ | _
  · have HR : Hid (psB v = false) := Lib.hid (psB_no fun g => by simp [inB, perB] at h2; have := g.l0; have := g.l1; have := g.b0; have := g.be; have := g.e1; have := g.p0; have := g.p1; have := g.d0; have := g.d1; have := g.c0; have := g.c1; omega)
    have H1 := Lib.hid h1
    have H2 := Lib.hid h2
    clear h1 h2
    go_enter Try.func95, Try.ntmps95
    go_wp2_with fail
    refine (lineJ_spec _ _ H1.out _).mono ?_
    rintro e w' ⟨rfl, rfl⟩
    go_wp2_with fail
    refine (timeJ_spec _ _ H2.out _).mono ?_
    rintro e w' ⟨rfl, rfl⟩
    go_wp2_with fail
    go_ret
    exact ⟨ret_bool (by first | exact HR.out.symm | simp [HR.out]), (Below.refl _ _).alloc (Nat.le_refl _) _⟩
  rcases h3 : inB v.bg 0 (v.en - 1) with _ | _
  · have HR : Hid (psB v = false) := Lib.hid (psB_no fun g => by simp [inB, perB] at h3; have := g.l0; have := g.l1; have := g.b0; have := g.be; have := g.e1; have := g.p0; have := g.p1; have := g.d0; have := g.d1; have := g.c0; have := g.c1; omega)
    obtain ⟨en0, en1⟩ := inB_yes h2
    have H1 := Lib.hid h1
    have H2 := Lib.hid h2
    have H3 := Lib.hid h3
    clear h1 h2 h3
    go_enter Try.func95, Try.ntmps95
    go_wp2_with fail
    refine (lineJ_spec _ _ H1.out _).mono ?_
    rintro e w' ⟨rfl, rfl⟩
    go_wp2_with fail
    refine (timeJ_spec _ _ H2.out _).mono ?_
    rintro e w' ⟨rfl, rfl⟩
    go_wp2_with fail
    refine (l1In_v _ _ _ _ H3.out _).mono ?_
    rintro e w' ⟨rfl, rfl⟩
    go_wp2_with fail
    go_ret
    exact ⟨ret_bool (by first | exact HR.out.symm | simp [HR.out]), (Below.refl _ _).alloc (Nat.le_refl _) _⟩
  rcases h4 : inB v.pi 0 100000 with _ | _
  · have HR : Hid (psB v = false) := Lib.hid (psB_no fun g => by simp [inB, perB] at h4; have := g.l0; have := g.l1; have := g.b0; have := g.be; have := g.e1; have := g.p0; have := g.p1; have := g.d0; have := g.d1; have := g.c0; have := g.c1; omega)
    obtain ⟨en0, en1⟩ := inB_yes h2
    have H1 := Lib.hid h1
    have H2 := Lib.hid h2
    have H3 := Lib.hid h3
    have H4 := Lib.hid h4
    clear h1 h2 h3 h4
    go_enter Try.func95, Try.ntmps95
    go_wp2_with fail
    refine (lineJ_spec _ _ H1.out _).mono ?_
    rintro e w' ⟨rfl, rfl⟩
    go_wp2_with fail
    refine (timeJ_spec _ _ H2.out _).mono ?_
    rintro e w' ⟨rfl, rfl⟩
    go_wp2_with fail
    refine (l1In_v _ _ _ _ H3.out _).mono ?_
    rintro e w' ⟨rfl, rfl⟩
    go_wp2_with fail
    refine (l1In_v _ _ _ _ H4.out _).mono ?_
    rintro e w' ⟨rfl, rfl⟩
    go_wp2_with fail
    go_ret
    exact ⟨ret_bool (by first | exact HR.out.symm | simp [HR.out]), (Below.refl _ _).alloc (Nat.le_refl _) _⟩
  rcases h5 : inB v.bd 0 v.pi with _ | _
  · have HR : Hid (psB v = false) := Lib.hid (psB_no fun g => by simp [inB, perB] at h5; have := g.l0; have := g.l1; have := g.b0; have := g.be; have := g.e1; have := g.p0; have := g.p1; have := g.d0; have := g.d1; have := g.c0; have := g.c1; omega)
    obtain ⟨en0, en1⟩ := inB_yes h2
    have H1 := Lib.hid h1
    have H2 := Lib.hid h2
    have H3 := Lib.hid h3
    have H4 := Lib.hid h4
    have H5 := Lib.hid h5
    clear h1 h2 h3 h4 h5
    go_enter Try.func95, Try.ntmps95
    go_wp2_with fail
    refine (lineJ_spec _ _ H1.out _).mono ?_
    rintro e w' ⟨rfl, rfl⟩
    go_wp2_with fail
    refine (timeJ_spec _ _ H2.out _).mono ?_
    rintro e w' ⟨rfl, rfl⟩
    go_wp2_with fail
    refine (l1In_v _ _ _ _ H3.out _).mono ?_
    rintro e w' ⟨rfl, rfl⟩
    go_wp2_with fail
    refine (l1In_v _ _ _ _ H4.out _).mono ?_
    rintro e w' ⟨rfl, rfl⟩
    go_wp2_with fail
    refine (l1In_v _ _ _ _ H5.out _).mono ?_
    rintro e w' ⟨rfl, rfl⟩
    go_wp2_with fail
    go_ret
    exact ⟨ret_bool (by first | exact HR.out.symm | simp [HR.out]), (Below.refl _ _).alloc (Nat.le_refl _) _⟩
  obtain ⟨d, h6⟩ : ∃ d, inB v.co 0 359 = d := ⟨_, rfl⟩
  have HR : Hid (psB v = d) := by
    unfold Hid
    rcases d with _ | _
    · exact psB_no fun g => by simp [inB, perB] at h6; have := g.c0; have := g.c1; omega
    · refine (psB_iff v).2 ?_
      simp [inB, perB] at h1 h2 h3 h4 h5 h6
      constructor <;> omega
  obtain ⟨en0, en1⟩ := inB_yes h2
  have H1 := Lib.hid h1
  have H2 := Lib.hid h2
  have H3 := Lib.hid h3
  have H4 := Lib.hid h4
  have H5 := Lib.hid h5
  have H6 := Lib.hid h6
  clear h1 h2 h3 h4 h5 h6
  go_enter Try.func95, Try.ntmps95
  go_wp2_with fail
  refine (lineJ_spec _ _ H1.out _).mono ?_
  rintro e w' ⟨rfl, rfl⟩
  go_wp2_with fail
  refine (timeJ_spec _ _ H2.out _).mono ?_
  rintro e w' ⟨rfl, rfl⟩
  go_wp2_with fail
  refine (l1In_v _ _ _ _ H3.out _).mono ?_
  rintro e w' ⟨rfl, rfl⟩
  go_wp2_with fail
  refine (l1In_v _ _ _ _ H4.out _).mono ?_
  rintro e w' ⟨rfl, rfl⟩
  go_wp2_with fail
  refine (l1In_v _ _ _ _ H5.out _).mono ?_
  rintro e w' ⟨rfl, rfl⟩
  go_wp2_with fail
  refine (l1In_v _ _ _ _ H6.out _).mono ?_
  rintro e w' ⟨rfl, rfl⟩
  go_wp2_with fail
  go_ret
  exact ⟨ret_bool (by first | exact HR.out.symm | simp [HR.out]), (Below.refl _ _).alloc (Nat.le_refl _) _⟩
theorem ps_spec (v : PS) (r : Bool) (h : psB v = r) (w : World) :
    Calls Try.prog 45 #[.agg #[.int .i64 v.ln, .int .i64 v.bg, .int .i64 v.en, .int .i64 v.pi, .int .i64 v.bd, .int .i64 v.co]] w fun e w' => e = .returned (.bool r) ∧ Below w.heap.size w w' := by
  have H := Lib.hid h
  clear h
  go_enter Try.func45, Try.ntmps45
  go_wp2_with fail
  refine (ps_one v _ H.out _).mono ?_
  rintro e w1 ⟨rfl, hb⟩
  have HX := Lib.hid (box1 hb)
  clear hb
  go_wp2_with fail
  go_ret
  exact ⟨rfl, HX.out.1⟩
/-! ### Rows -/
set_option maxRecDepth 20000 in
set_option maxHeartbeats 3200000 in
theorem pss_impl (A : Option Addr) (n c : Nat) (L : List PS) (w : World) (hs : SdsJ w w.heap.size A n L) (hm : n ≤ maxLen) :
    Calls Try.prog 22 #[.slice A n c] w fun e w' => e = .returned (.bool (pssB L)) ∧ Below w.heap.size w w' := by
  obtain rfl := hs.1
  have HS := Lib.hid hs
  clear hs
  unfold maxLen at hm
  by_cases h12 : (12 : Int) < L.length
  · have HR := Lib.hid (pss_long (L := L) (by omega))
    go_enter Try.func22, Try.ntmps22
    go_wp2_with fail
    go_ret
    exact ⟨ret_bool HR.out.symm, Below.refl _ _⟩
  go_enter Try.func22, Try.ntmps22
  go_wp2_with fail
  go_loopw [10] (fun i wr => ∃ k : Nat, k ≤ L.length ∧ i = .int .i64 k ∧ Hid (pgoodK L k = true) ∧ Hid (Below w.heap.size w wr)) (fun i _ => L.length - (intOf i).toNat)
  case atStart => exact ⟨0, Nat.zero_le _, rfl, by simp [Hid, pgoodK], Lib.hid (Below.refl _ _)⟩
  case round =>
    obtain ⟨k, hk, rfl, hA, hB⟩ := hrel
    by_cases hlt : k < L.length
    · obtain ⟨b, o, v, rfl, hbl, hL, c0, c1, c2, c3, c4, c5⟩ := (sds_atJ HS.out hB.out).2 k hlt
      have HK := Lib.hid hL
      obtain ⟨W0, hW0⟩ : ∃ W0, W0 = wr.alloc (.cells #[.int .i64 v.ln, .int .i64 v.bg, .int .i64 v.en, .int .i64 v.pi, .int .i64 v.bd, .int .i64 v.co] 40) := ⟨_, rfl⟩
      have HW : Hid (Below wr.heap.size wr W0 ∧ Has W0 wr.heap.size [.int .i64 v.ln, .int .i64 v.bg, .int .i64 v.en, .int .i64 v.pi, .int .i64 v.bd, .int .i64 v.co]) := by rw [hW0]; exact box1 (Below.refl _ _)
      have HB0 := Lib.hid (bthen hB.out HW.out.1 hB.out.size)
      have a0 := HW.out.2.at_ 0 _ rfl
      have a1 := HW.out.2.at_ 1 _ rfl
      have a2 := HW.out.2.at_ 2 _ rfl
      have a3 := HW.out.2.at_ 3 _ rfl
      have a4 := HW.out.2.at_ 4 _ rfl
      have a5 := HW.out.2.at_ 5 _ rfl
      have HE := Lib.hid hW0
      clear hW0 hL
      go_wp2_with fail
      rw [← HE.out]
      clear c0 c1 c2 c3 c4 c5
      rcases hv : psB v with _ | _
      · have HV := Lib.hid hv
        have HR := Lib.hid (pss_bad hlt (pstep_invalid HK.out hv))
        clear hv
        have lc0 := lcell (a0)
        have lc1 := lcell (a1)
        have lc2 := lcell (a2)
        have lc3 := lcell (a3)
        have lc4 := lcell (a4)
        have lc5 := lcell (a5)
        refine region_later (W := W0) (by kernel_rfl) (by kernel_rfl) (Below.refl _ _) ?_
        repeat (go_big_quiet_step (((go_at_call 42; with_reducible exact later_call (ps_impl v _ HV.out _)))))
        refine wpQuiet_nil ?_
        intro W1 hW1
        have HL : Hid (Below W0.heap.size W0 W1) := by obtain ⟨x, rfl⟩ := hW1; exact Lib.hid x.below
        clear hW1 lc0 lc1 lc2 lc3 lc4 lc5
        have HT := Lib.hid (bthen HB0.out HL.out HB0.out.size)
        go_wp2_with fail
        go_ret
        exact ⟨ret_bool HR.out.symm, HT.out⟩
      have HV := Lib.hid hv
      clear hv
      rcases k with _ | j
      · have HR : Hid (pgoodK L (0 + 1) = true) := by unfold Hid; rw [pgoodK_succ, hA.out, pstep_fine0 HK.out HV.out]; rfl
        have lc0 := lcell (a0)
        have lc1 := lcell (a1)
        have lc2 := lcell (a2)
        have lc3 := lcell (a3)
        have lc4 := lcell (a4)
        have lc5 := lcell (a5)
        refine region_later (W := W0) (by kernel_rfl) (by kernel_rfl) (Below.refl _ _) ?_
        repeat (go_big_quiet_step (((go_at_call 42; with_reducible exact later_call (ps_impl v _ HV.out _)))))
        refine wpQuiet_nil ?_
        intro W1 hW1
        have HL : Hid (Below W0.heap.size W0 W1) := by obtain ⟨x, rfl⟩ := hW1; exact Lib.hid x.below
        clear hW1 lc0 lc1 lc2 lc3 lc4 lc5
        have HT := Lib.hid (bthen HB0.out HL.out HB0.out.size)
        go_wp2_with fail
        go_roundw
        case rel => exact ⟨1, by omega, by go_num, HR, HT⟩
        case measure => simp [intOf]; omega
      · obtain ⟨b', o', v', hA', hb', hL', d0, d1, d2, d3, d4, d5⟩ := (sds_atJ HS.out hB.out).2 j (by omega)
        obtain ⟨rfl, rfl⟩ : b = b' ∧ o = o' := by injection hA' with h; injection h with h h'; exact ⟨h, h'⟩
        have e0 := cell_next HW.out.1 d2
        have HK' := Lib.hid hL'
        clear hA' hL' d0 d1 d2 d3 d4 d5
        by_cases hx : v.bg < v'.en
        · have HR := Lib.hid (pss_bad hlt (pstep_order HK.out HK'.out (by omega)))
          have hd : decide (v.bg < v'.en) = true := decide_eq_true hx
          have lc0 := lcell (a0)
          have lc1 := lcell (a1)
          have lc2 := lcell (a2)
          have lc3 := lcell (a3)
          have lc4 := lcell (a4)
          have lc5 := lcell (a5)
          have lc6 := lcell (e0)
          refine region_later (W := W0) (by kernel_rfl) (by kernel_rfl) (Below.refl _ _) ?_
          repeat (go_big_quiet_step (((go_at_call 42; with_reducible exact later_call (ps_impl v _ HV.out _)))))
          refine wpQuiet_nil ?_
          intro W1 hW1
          have HL : Hid (Below W0.heap.size W0 W1) := by obtain ⟨x, rfl⟩ := hW1; exact Lib.hid x.below
          clear hW1 lc0 lc1 lc2 lc3 lc4 lc5 lc6
          have HT := Lib.hid (bthen HB0.out HL.out HB0.out.size)
          go_wp2_with fail
          go_ret
          exact ⟨ret_bool HR.out.symm, HT.out⟩
        have hd : decide (v.bg < v'.en) = false := decide_eq_false hx
        have HR : Hid (pgoodK L (j + 1 + 1) = true) := by unfold Hid; rw [pgoodK_succ, hA.out, pstep_fine HK.out HK'.out HV.out (by omega)]; rfl
        have lc0 := lcell (a0)
        have lc1 := lcell (a1)
        have lc2 := lcell (a2)
        have lc3 := lcell (a3)
        have lc4 := lcell (a4)
        have lc5 := lcell (a5)
        have lc6 := lcell (e0)
        refine region_later (W := W0) (by kernel_rfl) (by kernel_rfl) (Below.refl _ _) ?_
        repeat (go_big_quiet_step (((go_at_call 42; with_reducible exact later_call (ps_impl v _ HV.out _)))))
        refine wpQuiet_nil ?_
        intro W1 hW1
        have HL : Hid (Below W0.heap.size W0 W1) := by obtain ⟨x, rfl⟩ := hW1; exact Lib.hid x.below
        clear hW1 lc0 lc1 lc2 lc3 lc4 lc5 lc6
        have HT := Lib.hid (bthen HB0.out HL.out HB0.out.size)
        go_wp2_with fail
        go_roundw
        case rel => exact ⟨j + 1 + 1, by omega, by go_num, HR, HT⟩
        case measure => simp [intOf]; omega
    · obtain rfl : k = L.length := by omega
      have HR := Lib.hid (pss_fine (by omega) hA.out)
      go_wp2_with fail
      go_ret
      exact ⟨ret_bool HR.out.symm, hB.out⟩
set_option maxRecDepth 20000 in
set_option maxHeartbeats 3200000 in
theorem pgood_spec (A : Option Addr) (n c : Nat) (L : List PS) (w : World) (hs : SdsJ w w.heap.size A n L) (hm : n ≤ maxLen) :
    Calls Try.prog 65 #[.slice A n c] w fun e w' => e = .returned (.bool (pssB L)) ∧ Below w.heap.size w w' := by
  obtain rfl := hs.1
  have HS := Lib.hid hs
  clear hs
  unfold maxLen at hm
  go_enter Try.func65, Try.ntmps65
  go_wp2_with fail
  go_loopw [3] (fun i wr => ∃ k : Nat, k ≤ L.length ∧ i = .int .i64 k ∧ Hid (pgoodK L k = true) ∧ Hid (Below w.heap.size w wr)) (fun i _ => L.length - (intOf i).toNat)
  case atStart => exact ⟨0, Nat.zero_le _, rfl, by simp [Hid, pgoodK], Lib.hid (Below.refl _ _)⟩
  case round =>
    obtain ⟨k, hk, rfl, hA, hB⟩ := hrel
    by_cases hlt : k < L.length
    · obtain ⟨b, o, v, rfl, hbl, hL, c0, c1, c2, c3, c4, c5⟩ := (sds_atJ HS.out hB.out).2 k hlt
      have HK := Lib.hid hL
      obtain ⟨W0, rfl⟩ : ∃ W : World, W = wr := ⟨_, rfl⟩
      have HB0 := Lib.hid hB.out
      clear hL
      go_wp2_with fail
      rcases hv : psB v with _ | _
      · have HV := Lib.hid hv
        have HR := Lib.hid (pss_bad hlt (pstep_invalid HK.out hv))
        clear hv
        have lc0 := lcell (c0)
        have lc1 := lcell (c1)
        have lc2 := lcell (c2)
        have lc3 := lcell (c3)
        have lc4 := lcell (c4)
        have lc5 := lcell (c5)
        refine region_later (W := W0) (by kernel_rfl) (by kernel_rfl) (Below.refl _ _) ?_
        repeat (go_big_quiet_step (((go_at_call 95; with_reducible exact later_call (ps_one v _ HV.out _)))))
        refine wpQuiet_nil ?_
        intro W1 hW1
        have HL : Hid (Below W0.heap.size W0 W1) := by obtain ⟨x, rfl⟩ := hW1; exact Lib.hid x.below
        clear hW1 lc0 lc1 lc2 lc3 lc4 lc5
        have HT := Lib.hid (bthen HB0.out HL.out HB0.out.size)
        go_wp2_with fail
        go_ret
        exact ⟨ret_bool HR.out.symm, HT.out⟩
      have HV := Lib.hid hv
      clear hv
      rcases k with _ | j
      · have HR : Hid (pgoodK L (0 + 1) = true) := by unfold Hid; rw [pgoodK_succ, hA.out, pstep_fine0 HK.out HV.out]; rfl
        simp only [Nat.zero_mul, Nat.add_zero] at c0 c1 c2 c3 c4 c5
        have lc0 := lcell (c0)
        have lc1 := lcell (c1)
        have lc2 := lcell (c2)
        have lc3 := lcell (c3)
        have lc4 := lcell (c4)
        have lc5 := lcell (c5)
        refine region_later (W := W0) (by kernel_rfl) (by kernel_rfl) (Below.refl _ _) ?_
        repeat (go_big_quiet_step (((go_at_call 95; with_reducible exact later_call (ps_one v _ HV.out _)))))
        refine wpQuiet_nil ?_
        intro W1 hW1
        have HL : Hid (Below W0.heap.size W0 W1) := by obtain ⟨x, rfl⟩ := hW1; exact Lib.hid x.below
        clear hW1 lc0 lc1 lc2 lc3 lc4 lc5
        have HT := Lib.hid (bthen HB0.out HL.out HB0.out.size)
        go_wp2_with fail
        go_roundw
        case rel => exact ⟨1, by omega, by go_num, HR, HT⟩
        case measure => simp [intOf]; omega
      · obtain ⟨b', o', v', hA', hb', hL', d0, d1, d2, d3, d4, d5⟩ := (sds_atJ HS.out hB.out).2 j (by omega)
        obtain ⟨rfl, rfl⟩ : b = b' ∧ o = o' := by injection hA' with h; injection h with h h'; exact ⟨h, h'⟩
        have e0 := d2
        have HK' := Lib.hid hL'
        clear hA' hL' d0 d1 d2 d3 d4 d5
        by_cases hx : v'.en > v.bg
        · have HR := Lib.hid (pss_bad hlt (pstep_order HK.out HK'.out (by omega)))
          have hd : decide (v'.en > v.bg) = true := decide_eq_true hx
          have lc0 := lcell (c0)
          have lc1 := lcell (c1)
          have lc2 := lcell (c2)
          have lc3 := lcell (c3)
          have lc4 := lcell (c4)
          have lc5 := lcell (c5)
          have lc6 := lcell (e0)
          refine region_later (W := W0) (by kernel_rfl) (by kernel_rfl) (Below.refl _ _) ?_
          repeat (go_big_quiet_step (((go_at_call 95; with_reducible exact later_call (ps_one v _ HV.out _)))))
          refine wpQuiet_nil ?_
          intro W1 hW1
          have HL : Hid (Below W0.heap.size W0 W1) := by obtain ⟨x, rfl⟩ := hW1; exact Lib.hid x.below
          clear hW1 lc0 lc1 lc2 lc3 lc4 lc5 lc6
          have HT := Lib.hid (bthen HB0.out HL.out HB0.out.size)
          go_wp2_with fail
          go_ret
          exact ⟨ret_bool HR.out.symm, HT.out⟩
        have hd : decide (v'.en > v.bg) = false := decide_eq_false hx
        have HR : Hid (pgoodK L (j + 1 + 1) = true) := by unfold Hid; rw [pgoodK_succ, hA.out, pstep_fine HK.out HK'.out HV.out (by omega)]; rfl
        have lc0 := lcell (c0)
        have lc1 := lcell (c1)
        have lc2 := lcell (c2)
        have lc3 := lcell (c3)
        have lc4 := lcell (c4)
        have lc5 := lcell (c5)
        have lc6 := lcell (e0)
        refine region_later (W := W0) (by kernel_rfl) (by kernel_rfl) (Below.refl _ _) ?_
        repeat (go_big_quiet_step (((go_at_call 95; with_reducible exact later_call (ps_one v _ HV.out _)))))
        refine wpQuiet_nil ?_
        intro W1 hW1
        have HL : Hid (Below W0.heap.size W0 W1) := by obtain ⟨x, rfl⟩ := hW1; exact Lib.hid x.below
        clear hW1 lc0 lc1 lc2 lc3 lc4 lc5 lc6
        have HT := Lib.hid (bthen HB0.out HL.out HB0.out.size)
        go_wp2_with fail
        go_roundw
        case rel => exact ⟨j + 1 + 1, by omega, by go_num, HR, HT⟩
        case measure => simp [intOf]; omega
    · obtain rfl : k = L.length := by omega
      by_cases h12 : L.length ≤ 12
      · have HR := Lib.hid (pss_fine h12 hA.out)
        go_wp2_with fail
        go_ret
        exact ⟨ret_bool ((decide_eq_true (by omega)).trans HR.out.symm), hB.out⟩
      · have HR := Lib.hid (pss_long h12)
        go_wp2_with fail
        go_ret
        exact ⟨ret_bool ((decide_eq_false (by omega)).trans HR.out.symm), hB.out⟩
theorem pss_impl_v (A : Option Addr) (n c : Nat) (L : List PS) (r : Bool) (h : pssB L = r) (w : World) (hs : SdsJ w w.heap.size A n L) (hm : n ≤ maxLen) :
    Calls Try.prog 22 #[.slice A n c] w fun e w' => e = .returned (.bool r) ∧ Below w.heap.size w w' := h ▸ pss_impl A n c L w hs hm
theorem pgood_spec_v (A : Option Addr) (n c : Nat) (L : List PS) (r : Bool) (h : pssB L = r) (w : World) (hs : SdsJ w w.heap.size A n L) (hm : n ≤ maxLen) :
    Calls Try.prog 65 #[.slice A n c] w fun e w' => e = .returned (.bool r) ∧ Below w.heap.size w w' := h ▸ pgood_spec A n c L w hs hm
theorem pss_spec (A : Option Addr) (n c : Nat) (L : List PS) (w : World) (hs : SdsJ w w.heap.size A n L) (hm : n ≤ maxLen) :
    Calls Try.prog 48 #[.slice A n c] w fun e w' => e = .returned (.bool (pssB L)) ∧ Below w.heap.size w w' := by
  have HS := Lib.hid hs
  clear hs
  obtain ⟨r, hr⟩ : ∃ r, pssB L = r := ⟨_, rfl⟩
  have HR := Lib.hid hr
  rw [hr]
  clear hr
  go_enter Try.func48, Try.ntmps48
  go_wp2_with fail
  refine (pgood_spec_v A n c L _ HR.out _ HS.out hm).mono ?_
  rintro e w1 ⟨rfl, hb⟩
  have HX := Lib.hid hb
  clear hb
  go_wp2_with fail
  go_ret
  exact ⟨rfl, HX.out⟩
end Go.Proofs.Ytllfmjnniagjfaa
