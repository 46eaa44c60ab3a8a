/-
  Coverage: contracts of the closures of impl.CellsCovered, CellsIn, UncoveredIn and of impl.CoverageOf, CellsCovered, CellsIn, UncoveredIn over this translation. Conditions: stated at each theorem.
-/
import Derived.Test.YtagfgaohdpoegaaCc
import Derived.Test.YtagfgaohdpoegaaLw
import Derived.Test.YtagfgaohdpoegaaBs
namespace Go.Proofs.Ytagfgaohdpoegaa
open Go.RowKit
set_option linter.unusedVariables false

def Counts (L : List LN) (w : World) (gv : Nat) : Prop := ∀ r c : Nat, r < 20 → c < 20 → ∃ g : Nat, w.cell? ⟨gv, r, none⟩ = some (.slice (some ⟨g, 0, none⟩) 20 20) ∧ w.cell? ⟨g, c, none⟩ = some (.int .i64 (cvN L r c))
theorem counts_of {L : List LN} {w : World} {gv : Nat} {gs : List Nat} (hl : gs.length = 20) (hc : ∀ (j g : Nat), gs[j]? = some g → w.cell? ⟨gv, j, none⟩ = some (.slice (some ⟨g, 0, none⟩) 20 20)) (hg : GridAt L gs w) : Counts L w gv := fun r c hr hc2 => by
  obtain ⟨g, h⟩ : ∃ g, gs[r]? = some g := ⟨gs[r]'(by omega), List.getElem?_eq_getElem _⟩
  have h2 := (hg r g h).at_ c _ (cntV_at L r 20 0 c hc2)
  unfold cntF at h2
  rw [if_pos hc2] at h2
  exact ⟨g, hc r g h, h2⟩
theorem Counts.next {L : List LN} {w w' : World} {gv : Nat} (h : Counts L w gv) (hb : Below w.heap.size w w') : Counts L w' gv := fun r c hr hc => by
  obtain ⟨g, h1, h2⟩ := h r c hr hc
  exact ⟨g, cell_next hb h1, cell_next hb h2⟩
theorem box_mid {a b c d : Int} (h : boxB a b c d = true) : Mid9 a ∧ Mid9 b ∧ Mid9 c ∧ Mid9 d := by
  have := boxB_yes h
  unfold Mid9
  omega
theorem box_four {w : World} {g : Nat} {a b c d : Int} (h : Has w g [.int .i64 a, .int .i64 b, .int .i64 c, .int .i64 d]) : w.cell? ⟨g, 0, none⟩ = some (.int .i64 a) ∧ w.cell? ⟨g, 1, none⟩ = some (.int .i64 b) ∧ w.cell? ⟨g, 2, none⟩ = some (.int .i64 c) ∧ w.cell? ⟨g, 3, none⟩ = some (.int .i64 d) := ⟨h.at_ 0 _ rfl, h.at_ 1 _ rfl, h.at_ 2 _ rfl, h.at_ 3 _ rfl⟩
/-- Which cells are covered at least t times. -/
def coP (L : List LN) (t : Int) (r c : Nat) : Bool := decide (t ≤ (cvN L r c : Int))
/-- Which cells lie in the box whole and are covered by no line. -/
def opP (L : List LN) (a b c d : Int) (r col : Nat) : Bool := whB a b c d r col && decide ((cvN L r col : Int) = 0)
def coK (L : List LN) (t : Int) : Bool := lnsB L && inB t 1 8
def coN (L : List LN) (t : Int) : Int := if coK L t then (clK (coP L t) 20 : Nat) else 0
def cvK9 (L : List LN) (r c : Int) : Bool := lnsB L && ceB r c
def cvR (L : List LN) (r c : Int) : Int := if cvK9 L r c then (cvN L r c : Nat) else 0
def inN (a b c d : Int) : Int := if boxB a b c d then (clK (fun r col => whB a b c d r col) 20 : Nat) else 0
def opK (L : List LN) (a b c d : Int) : Bool := lnsB L && boxB a b c d
def opR (L : List LN) (a b c d : Int) : List (Int × Int) := if opK L a b c d then clL (opP L a b c d) 20 else []
def IntPost (x : Int) (K : Bool) (w : World) (e : Ending) (w' : World) : Prop := e = .returned (.tuple #[.int .i64 x, .bool K]) ∧ Below w.heap.size w w'
theorem int_post {x y : Int} {K K' : Bool} {w w' : World} (h1 : x = y) (h2 : K = K') (hb : Below w.heap.size w w') : IntPost y K' w (.returned (.tuple #[.int .i64 x, .bool K])) w' := by subst h1; subst h2; exact ⟨rfl, hb⟩
theorem pairs_post {k : Nat} {l : List (Int × Int)} (hk : l.length = k) {L : List (Int × Int)} {K : Bool} {w w1 w' : World} {A : Option Addr} {c : Nat} (ho : Own2 w' w1.heap.size w'.heap.size A k l) (hb : Below w.heap.size w w') (hw : w.heap.size ≤ w1.heap.size) (hL : L = l) (hK : K = true) : PairsPost L K w (.returned (.tuple #[.slice A k c, .bool true])) w' := by
  subst hK
  subst hL
  subst hk
  exact ⟨A, c, rfl, ho.wide hw (Nat.le_refl _), hb⟩
theorem pairs_none {L : List (Int × Int)} {K : Bool} {w w1 : World} {T : TypeId} (hb : Below w.heap.size w w1) (hL : L = []) (hK : K = false) : PairsPost L K w (.returned (.tuple #[.slice (some ⟨w1.heap.size, 0, none⟩) 0 0, .bool false])) (w1.alloc (.cells #[] T)) := by
  subst hK
  subst hL
  exact ⟨_, 0, rfl, Own2.nil _ _ _ _, hb.alloc hb.size _⟩
/-! ### The closures -/
set_option maxHeartbeats 800000 in
theorem clo_covered (L : List LN) (t : Int) (gv cap cb tb : Nat) (W : World) (hc : W.cell? ⟨cb, 0, none⟩ = some (.slice (some ⟨gv, 0, none⟩) 20 cap)) (ht : W.cell? ⟨tb, 0, none⟩ = some (.int .i64 t)) (hg : Counts L W gv) (r c : Nat) (hr : r < 20) (hc2 : c < 20) :
    Calls Try.prog 64 #[.int .i64 r, .int .i64 c, .pointer (some ⟨cb, 0, none⟩), .pointer (some ⟨tb, 0, none⟩)] W fun e w' => e = .returned (.bool (coP L t r c)) ∧ Below W.heap.size W w' := by
  obtain ⟨g, h1, h2⟩ := hg r c hr hc2
  clear hg
  have HE : Hid (decide (t ≤ (cvN L r c : Int)) = coP L t r c) := Lib.hid rfl
  go_enter Try.func64, Try.ntmps64
  go_wp2_with fail
  go_quiet (fail)
  go_wp2_with fail
  go_ret
  exact ⟨ret_bool HE.out, bdrewN (Below.refl _ _) _⟩
set_option maxHeartbeats 800000 in
theorem clo_whole (a b c d : Int) (bb : Nat) (W : World) (h0 : W.cell? ⟨bb, 0, none⟩ = some (.int .i64 a)) (h1 : W.cell? ⟨bb, 1, none⟩ = some (.int .i64 b)) (h2 : W.cell? ⟨bb, 2, none⟩ = some (.int .i64 c)) (h3 : W.cell? ⟨bb, 3, none⟩ = some (.int .i64 d)) (hb : Mid9 a ∧ Mid9 b ∧ Mid9 c ∧ Mid9 d) (r col : Nat) (hr : r < 20) (hc2 : col < 20) :
    Calls Try.prog 76 #[.int .i64 r, .int .i64 col, .pointer (some ⟨bb, 0, none⟩)] W fun e w' => e = .returned (.bool (whB a b c d r col)) ∧ Below W.heap.size W w' := by
  obtain ⟨v, hv⟩ : ∃ v, whB a b c d r col = v := ⟨_, rfl⟩
  have HV := Lib.hid hv
  have HB := Lib.hid hb
  rw [hv]
  clear hv hb
  go_enter Try.func76, Try.ntmps76
  go_wp2_with fail
  refine (cellIn_impl r col a b c d _ HV.out hr hc2 HB.out.1 HB.out.2.1 HB.out.2.2.1 HB.out.2.2.2 _).mono ?_
  rintro e w1 ⟨rfl, hb⟩
  have HX := Lib.hid hb
  clear hb
  go_wp2_with fail
  go_ret
  exact ⟨rfl, HX.out⟩
set_option maxHeartbeats 800000 in
theorem clo_open (L : List LN) (a b c d : Int) (bb gv cap cb : Nat) (W : World) (h0 : W.cell? ⟨bb, 0, none⟩ = some (.int .i64 a)) (h1 : W.cell? ⟨bb, 1, none⟩ = some (.int .i64 b)) (h2 : W.cell? ⟨bb, 2, none⟩ = some (.int .i64 c)) (h3 : W.cell? ⟨bb, 3, none⟩ = some (.int .i64 d)) (hb : Mid9 a ∧ Mid9 b ∧ Mid9 c ∧ Mid9 d)
    (hc : W.cell? ⟨cb, 0, none⟩ = some (.slice (some ⟨gv, 0, none⟩) 20 cap)) (hg : Counts L W gv) (r col : Nat) (hr : r < 20) (hc2 : col < 20) :
    Calls Try.prog 72 #[.int .i64 r, .int .i64 col, .pointer (some ⟨bb, 0, none⟩), .pointer (some ⟨cb, 0, none⟩)] W fun e w' => e = .returned (.bool (opP L a b c d r col)) ∧ Below W.heap.size W w' := by
  have HB := Lib.hid hb
  have HC := Lib.hid hg
  have HCB := Lib.hid hc
  clear hb hg hc
  rcases hv : whB a b c d r col with _ | _
  · have HV := Lib.hid hv
    have HR : Hid (opP L a b c d r col = false) := by unfold Hid opP; rw [hv]; rfl
    clear hv
    go_enter Try.func72, Try.ntmps72
    go_wp2_with fail
    refine (cellIn_impl r col a b c d _ HV.out hr hc2 HB.out.1 HB.out.2.1 HB.out.2.2.1 HB.out.2.2.2 _).mono ?_
    rintro e w1 ⟨rfl, hb⟩
    have HX := Lib.hid hb
    clear hb
    go_wp2_with fail
    go_ret
    exact ⟨ret_bool HR.out.symm, HX.out⟩
  · have HV := Lib.hid hv
    have HR : Hid (opP L a b c d r col = decide ((cvN L r col : Int) = 0)) := by unfold Hid opP; rw [hv, Bool.true_and]
    clear hv
    go_enter Try.func72, Try.ntmps72
    go_wp2_with fail
    refine (cellIn_impl r col a b c d _ HV.out hr hc2 HB.out.1 HB.out.2.1 HB.out.2.2.1 HB.out.2.2.2 _).mono ?_
    rintro e w1 ⟨rfl, hb⟩
    have HX := Lib.hid hb
    have g0 := cell_next hb HCB.out
    obtain ⟨g, g1, g2⟩ := HC.out.next hb r col hr hc2
    clear hb
    go_wp2_with fail
    go_ret
    exact ⟨ret_bool (by rw [HR.out]; first | rfl | exact beq_dec _), HX.out⟩
/-! ### The functions -/
set_option maxHeartbeats 1600000 in
theorem coverage_impl (A : Option Addr) (n c0 : Nat) (L : List LN) (r c : Int) (w : World) (hs : SdsN w w.heap.size A n L) (hm : n ≤ maxLen) :
    Calls Try.prog 26 #[.slice A n c0, .int .i64 r, .int .i64 c] w (IntPost (cvR L r c) (cvK9 L r c) w) := by
  have HS := Lib.hid hs
  clear hs
  rcases h1 : lnsB L with _ | _
  · have H1 := Lib.hid h1
    have HR : Hid ((0 : Int) = cvR L r c ∧ false = cvK9 L r c) := by unfold Hid cvR cvK9; rw [h1]; exact ⟨rfl, rfl⟩
    clear h1
    go_enter Try.func26, Try.ntmps26
    go_wp2_with fail
    refine (lns_impl_v A n c0 L _ H1.out _ HS.out hm).mono ?_
    rintro e w1 ⟨rfl, hb⟩
    have HX := Lib.hid hb
    clear hb
    go_wp2_with fail
    go_ret2
    exact int_post HR.out.1 HR.out.2 HX.out
  rcases h2 : ceB r c with _ | _
  · have H1 := Lib.hid h1
    have H2 : Hid ((inB r 0 19 && inB c 0 19) = false) := Lib.hid h2
    have HR : Hid ((0 : Int) = cvR L r c ∧ false = cvK9 L r c) := by unfold Hid cvR cvK9; rw [h1, h2]; exact ⟨rfl, rfl⟩
    clear h1 h2
    go_enter Try.func26, Try.ntmps26
    go_wp2_with fail
    refine (lns_impl_v A n c0 L _ H1.out _ HS.out hm).mono ?_
    rintro e w1 ⟨rfl, hb⟩
    have HX := Lib.hid hb
    clear hb
    have HP := Lib.hid (Has.new w1 #[.int .i64 r, .int .i64 c] 3)
    have HY := Lib.hid (HX.out.alloc HX.out.size (.cells #[.int .i64 r, .int .i64 c] 3))
    go_wp2_with fail
    refine (pair_within 0 19 r c _ H2.out _ _ _ (HP.out.at_ 0 _ rfl) (HP.out.at_ 1 _ rfl)).mono ?_
    rintro e w' ⟨rfl, rfl⟩
    go_wp2_with fail
    go_ret2
    exact int_post HR.out.1 HR.out.2 HY.out
  have H1 := Lib.hid h1
  have H2 : Hid ((inB r 0 19 && inB c 0 19) = true) := Lib.hid h2
  have HG := Lib.hid (good9_of h1)
  obtain ⟨r', c', rfl, rfl, hr, hc⟩ : ∃ r' c' : Nat, r = r' ∧ c = c' ∧ r' < 20 ∧ c' < 20 := by
    unfold ceB at h2
    rw [Bool.and_eq_true] at h2
    have := inB_yes h2.1
    have := inB_yes h2.2
    exact ⟨r.toNat, c.toNat, by omega, by omega, by omega, by omega⟩
  have HR : Hid (((cvN L r' c' : Nat) : Int) = cvR L r' c' ∧ true = cvK9 L r' c') := by unfold Hid cvR cvK9; rw [h1, h2]; exact ⟨rfl, rfl⟩
  clear h1 h2
  go_enter Try.func26, Try.ntmps26
  go_wp2_with fail
  refine (lns_impl_v A n c0 L _ H1.out _ HS.out hm).mono ?_
  rintro e w1 ⟨rfl, hb⟩
  have HX := Lib.hid hb
  clear hb
  have HP := Lib.hid (Has.new w1 #[.int .i64 r', .int .i64 c'] 3)
  have HY := Lib.hid (HX.out.alloc HX.out.size (.cells #[.int .i64 r', .int .i64 c'] 3))
  go_wp2_with fail
  refine (pair_within 0 19 r' c' _ H2.out _ _ _ (HP.out.at_ 0 _ rfl) (HP.out.at_ 1 _ rfl)).mono ?_
  rintro e w' ⟨rfl, rfl⟩
  go_wp2_with fail
  refine (counts_impl A n c0 L _ (sds_atN HS.out HY.out) HG.out).mono ?_
  rintro e w2 ⟨gv, cap, gs, rfl, hgs, hcl, hgr, hb2⟩
  have HZ := Lib.hid (bthen HY.out hb2 HY.out.size)
  obtain ⟨g, g1, g2⟩ := counts_of hgs hcl hgr r' c' hr hc
  clear hgs hcl hgr hb2
  go_wp2_with fail
  go_ret2
  exact int_post HR.out.1 HR.out.2 HZ.out
set_option maxHeartbeats 1600000 in
theorem covered_impl (A : Option Addr) (n c0 : Nat) (L : List LN) (t : Int) (w : World) (hs : SdsN w w.heap.size A n L) (hm : n ≤ maxLen) :
    Calls Try.prog 17 #[.slice A n c0, .int .i64 t] w (IntPost (coN L t) (coK L t) w) := by
  have HS := Lib.hid (sds_atN hs ((Below.refl _ w).alloc (Nat.le_refl _) (.cells #[.int .i64 t] 3)))
  clear hs
  rcases h1 : lnsB L with _ | _
  · have H1 := Lib.hid h1
    have HR : Hid ((0 : Int) = coN L t ∧ false = coK L t) := by unfold Hid coN coK; rw [h1]; exact ⟨rfl, rfl⟩
    clear h1
    go_enter Try.func17, Try.ntmps17
    go_wp2_with fail
    refine (lns_impl_v A n c0 L _ H1.out _ HS.out hm).mono ?_
    rintro e w1 ⟨rfl, hb⟩
    have HX := Lib.hid (box1 hb)
    clear hb
    go_wp2_with fail
    go_ret2
    exact int_post HR.out.1 HR.out.2 HX.out.1
  rcases h2 : inB t 1 8 with _ | _
  · have H1 := Lib.hid h1
    have H2 := Lib.hid h2
    have HR : Hid ((0 : Int) = coN L t ∧ false = coK L t) := by unfold Hid coN coK; rw [h1, h2]; exact ⟨rfl, rfl⟩
    clear h1 h2
    go_enter Try.func17, Try.ntmps17
    go_wp2_with fail
    refine (lns_impl_v A n c0 L _ H1.out _ HS.out hm).mono ?_
    rintro e w1 ⟨rfl, hb⟩
    have HX := Lib.hid (box1 hb)
    clear hb
    have a0 := HX.out.2.at_ 0 _ rfl
    go_wp2_with fail
    refine (within_v _ _ _ _ H2.out _).mono ?_
    rintro e w' ⟨rfl, rfl⟩
    go_wp2_with fail
    go_ret2
    exact int_post HR.out.1 HR.out.2 HX.out.1
  have H1 := Lib.hid h1
  have H2 := Lib.hid h2
  have HG := Lib.hid (good9_of h1)
  have HR : Hid (((clK (coP L t) 20 : Nat) : Int) = coN L t ∧ true = coK L t) := by unfold Hid coN coK; rw [h1, h2]; exact ⟨rfl, rfl⟩
  clear h1 h2
  go_enter Try.func17, Try.ntmps17
  go_wp2_with fail
  refine (lns_impl_v A n c0 L _ H1.out _ HS.out hm).mono ?_
  rintro e w1 ⟨rfl, hb⟩
  have HX := Lib.hid (box1 hb)
  have HS1 := Lib.hid (sds_atN HS.out hb)
  clear hb
  have a0 := HX.out.2.at_ 0 _ rfl
  go_wp2_with fail
  refine (within_v _ _ _ _ H2.out _).mono ?_
  rintro e w' ⟨rfl, rfl⟩
  go_wp2_with fail
  refine (counts_impl A n c0 L _ HS1.out HG.out).mono ?_
  rintro e w2 ⟨gv, cap, gs, rfl, hgs, hcl, hgr, hb2⟩
  obtain ⟨W3, hW3⟩ : ∃ W, W = w2.alloc (.cells #[.slice (some ⟨gv, 0, none⟩) 20 cap] 78) := ⟨_, rfl⟩
  have hB3 : Below w2.heap.size w2 W3 := by rw [hW3]; exact (Below.refl _ _).alloc (Nat.le_refl _) _
  have hN3 : Has W3 w2.heap.size [.slice (some ⟨gv, 0, none⟩) 20 cap] := by rw [hW3]; exact Has.new _ _ _
  have HC3 := Lib.hid ((counts_of hgs hcl hgr).next hB3)
  have HT3 := Lib.hid ((HX.out.2.next hb2).next hB3)
  have HN3 := Lib.hid hN3
  have HZ := Lib.hid (bthen (bthen HX.out.1 hb2 HX.out.1.size) hB3 (bthen HX.out.1 hb2 HX.out.1.size).size)
  have HE := Lib.hid hW3
  clear hgs hcl hgr hb2 hB3 hN3 hW3 a0
  go_wp2_with fail
  rw [← HE.out]
  refine (where_covered (coP L t) _ _ _ (fun W r c hW hr hc => clo_covered L t gv cap _ _ W (cell_next hW (HN3.out.at_ 0 _ rfl)) (cell_next hW (HT3.out.at_ 0 _ rfl)) (HC3.out.next hW) r c hr hc)).mono ?_
  rintro e w4 ⟨A4, c4, rfl, ho, hb4⟩
  have HY := Lib.hid (bthen HZ.out hb4 HZ.out.size)
  clear ho hb4
  go_wp2_with fail
  go_ret2
  exact int_post HR.out.1 HR.out.2 HY.out
set_option maxHeartbeats 1600000 in
theorem cellsIn_impl (a b c d : Int) (w : World) :
    Calls Try.prog 25 #[.agg #[.int .i64 a, .int .i64 b, .int .i64 c, .int .i64 d]] w (IntPost (inN a b c d) (boxB a b c d) w) := by
  rcases h1 : boxB a b c d with _ | _
  · have H1 := Lib.hid h1
    have HR : Hid ((0 : Int) = inN a b c d) := by unfold Hid inN; rw [h1]; rfl
    clear h1
    go_enter Try.func25, Try.ntmps25
    go_wp2_with fail
    refine (isBox_impl a b c d _).mono ?_
    rintro e w1 ⟨he, hb⟩
    rw [H1.out] at he
    subst he
    have HX := Lib.hid (box1 hb)
    clear hb
    go_wp2_with fail
    go_ret2
    exact int_post HR.out rfl HX.out.1
  have H1 := Lib.hid h1
  have HM := Lib.hid (box_mid h1)
  have HR : Hid (((clK (fun r col => whB a b c d r col) 20 : Nat) : Int) = inN a b c d) := by unfold Hid inN; rw [h1]; rfl
  clear h1
  go_enter Try.func25, Try.ntmps25
  go_wp2_with fail
  refine (isBox_impl a b c d _).mono ?_
  rintro e w1 ⟨he, hb⟩
  rw [H1.out] at he
  subst he
  have HX := Lib.hid (box1 hb)
  clear hb
  go_wp2_with fail
  refine (where_whole (fun r col => whB a b c d r col) _ _ (fun W r col hW hr hc => clo_whole a b c d _ W (cell_next hW (HX.out.2.at_ 0 _ rfl)) (cell_next hW (HX.out.2.at_ 1 _ rfl)) (cell_next hW (HX.out.2.at_ 2 _ rfl)) (cell_next hW (HX.out.2.at_ 3 _ rfl)) HM.out r col hr hc)).mono ?_
  rintro e w4 ⟨A4, c4, rfl, ho, hb4⟩
  have HY := Lib.hid (bthen HX.out.1 hb4 HX.out.1.size)
  clear ho hb4
  go_wp2_with fail
  go_ret2
  exact int_post HR.out rfl HY.out
set_option maxHeartbeats 1600000 in
theorem open_impl (A : Option Addr) (n c0 : Nat) (L : List LN) (a b c d : Int) (w : World) (hs : SdsN w w.heap.size A n L) (hm : n ≤ maxLen) :
    Calls Try.prog 22 #[.slice A n c0, .agg #[.int .i64 a, .int .i64 b, .int .i64 c, .int .i64 d]] w (PairsPost (opR L a b c d) (opK L a b c d) w) := by
  have HS := Lib.hid (sds_atN hs ((Below.refl _ w).alloc (Nat.le_refl _) (.cells #[.int .i64 a, .int .i64 b, .int .i64 c, .int .i64 d] 31)))
  clear hs
  rcases h1 : lnsB L with _ | _
  · have H1 := Lib.hid h1
    have HR : Hid (opR L a b c d = [] ∧ opK L a b c d = false) := by unfold Hid opR opK; rw [h1]; exact ⟨rfl, rfl⟩
    clear h1
    go_enter Try.func22, Try.ntmps22
    go_wp2_with fail
    refine (lns_impl_v A n c0 L _ H1.out _ HS.out hm).mono ?_
    rintro e w1 ⟨rfl, hb⟩
    have HX := Lib.hid (box1 hb)
    clear hb
    go_wp2_with fail
    go_ret2
    exact pairs_none HX.out.1 HR.out.1 HR.out.2
  rcases h2 : boxB a b c d with _ | _
  · have H1 := Lib.hid h1
    have H2 := Lib.hid h2
    have HR : Hid (opR L a b c d = [] ∧ opK L a b c d = false) := by unfold Hid opR opK; rw [h1, h2]; exact ⟨rfl, rfl⟩
    clear h1 h2
    go_enter Try.func22, Try.ntmps22
    go_wp2_with fail
    refine (lns_impl_v A n c0 L _ H1.out _ HS.out hm).mono ?_
    rintro e w1 ⟨rfl, hb⟩
    have HX := Lib.hid (box1 hb)
    clear hb
    obtain ⟨a0, a1, a2, a3⟩ := box_four HX.out.2
    go_wp2_with fail
    refine (isBox_impl a b c d _).mono ?_
    rintro e w2 ⟨he, hb⟩
    rw [H2.out] at he
    subst he
    have HX2 := Lib.hid (bthen HX.out.1 hb HX.out.1.size)
    clear hb
    go_wp2_with fail
    go_ret2
    exact pairs_none HX2.out HR.out.1 HR.out.2
  have H1 := Lib.hid h1
  have H2 := Lib.hid h2
  have HG := Lib.hid (good9_of h1)
  have HM := Lib.hid (box_mid h2)
  have HR : Hid (opR L a b c d = clL (opP L a b c d) 20 ∧ opK L a b c d = true) := by unfold Hid opR opK; rw [h1, h2]; exact ⟨rfl, rfl⟩
  clear h1 h2
  go_enter Try.func22, Try.ntmps22
  go_wp2_with fail
  refine (lns_impl_v A n c0 L _ H1.out _ HS.out hm).mono ?_
  rintro e w1 ⟨rfl, hb⟩
  have HX := Lib.hid (box1 hb)
  have HS1 := Lib.hid (sds_atN HS.out hb)
  clear hb
  obtain ⟨a0, a1, a2, a3⟩ := box_four HX.out.2
  go_wp2_with fail
  refine (isBox_impl a b c d _).mono ?_
  rintro e w2 ⟨he, hb⟩
  rw [H2.out] at he
  subst he
  have HX2 := Lib.hid (And.intro (bthen HX.out.1 hb HX.out.1.size) (HX.out.2.next hb))
  have HS2 := Lib.hid (sds_atN HS1.out hb)
  clear hb a0 a1 a2 a3
  go_wp2_with fail
  refine (counts_impl A n c0 L _ HS2.out HG.out).mono ?_
  rintro e w3 ⟨gv, cap, gs, rfl, hgs, hcl, hgr, hb2⟩
  obtain ⟨W3, hW3⟩ : ∃ W, W = w3.alloc (.cells #[.slice (some ⟨gv, 0, none⟩) 20 cap] 78) := ⟨_, rfl⟩
  have hB3 : Below w3.heap.size w3 W3 := by rw [hW3]; exact (Below.refl _ _).alloc (Nat.le_refl _) _
  have hN3 : Has W3 w3.heap.size [.slice (some ⟨gv, 0, none⟩) 20 cap] := by rw [hW3]; exact Has.new _ _ _
  have HC3 := Lib.hid ((counts_of hgs hcl hgr).next hB3)
  have HT3 := Lib.hid ((HX2.out.2.next hb2).next hB3)
  have HN3 := Lib.hid hN3
  have HZ := Lib.hid (bthen (bthen HX2.out.1 hb2 HX2.out.1.size) hB3 (bthen HX2.out.1 hb2 HX2.out.1.size).size)
  have HE := Lib.hid hW3
  clear hgs hcl hgr hb2 hB3 hN3 hW3
  go_wp2_with fail
  rw [← HE.out]
  refine (where_open (opP L a b c d) _ _ _ (fun W r col hW hr hc => clo_open L a b c d _ gv cap _ W (cell_next hW (HT3.out.at_ 0 _ rfl)) (cell_next hW (HT3.out.at_ 1 _ rfl)) (cell_next hW (HT3.out.at_ 2 _ rfl)) (cell_next hW (HT3.out.at_ 3 _ rfl)) HM.out (cell_next hW (HN3.out.at_ 0 _ rfl)) (HC3.out.next hW) r col hr hc)).mono ?_
  rintro e w4 ⟨A4, c4, rfl, ho, hb4⟩
  have HY : Hid (PairsPost (opR L a b c d) (opK L a b c d) w (.returned (.tuple #[.slice A4 (clK (opP L a b c d) 20) c4, .bool true])) w4) := Lib.hid (pairs_post (clL_len _ 20) ho (bthen HZ.out hb4 HZ.out.size) HZ.out.size HR.out.1 HR.out.2)
  clear ho hb4
  go_wp2_with fail
  go_ret2
  exact HY.out
end Go.Proofs.Ytagfgaohdpoegaa
