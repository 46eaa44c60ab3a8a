/-
  Which line is worse: contracts of impl.fraction.isAbove, errorOf, WorstLine's closure, mostOf over numbers over this translation. Conditions: stated at each theorem.
-/
import Derived.Test.YtlakdlghkniegaaKl
import Derived.Test.YtlakdlghkniegaaKt
import Derived.Test.YtlakdlghkniegaaKn
import Derived.Deep.DeepCutAuto
import Derived.WalkMore
namespace Go.Proofs.Ytlakdlghkniegaa
open Go.RowKit
set_option linter.unusedVariables false

theorem mul_bdK {x y : Int} (h1 : 0 ≤ x) (h2 : x ≤ 210000) (h3 : 0 ≤ y) (h4 : y ≤ 10) : 0 ≤ x * y ∧ x * y ≤ 2100000 := by
  refine ⟨Int.mul_nonneg h1 h3, ?_⟩
  have a1 : x * y ≤ 210000 * y := Int.mul_le_mul_of_nonneg_right h2 h3
  omega
set_option maxHeartbeats 1600000 in
theorem aboveX (N D M E : Int) (r : Bool) (hr : decide (M * D < N * E) = r) (w : World) (h1 : (0 ≤ N ∧ N ≤ 210000) ∧ 0 ≤ D ∧ D ≤ 10) (h2 : (0 ≤ M ∧ M ≤ 210000) ∧ 0 ≤ E ∧ E ≤ 10) :
    Calls Try.prog 83 #[.agg #[.int .i64 N, .int .i64 D], .agg #[.int .i64 M, .int .i64 E]] w fun e w' => e = .returned (.bool r) ∧ Below w.heap.size w w' := by
  obtain ⟨b11, b12⟩ := mul_bdK (x := N) (y := E) h1.1.1 h1.1.2 h2.2.1 h2.2.2
  obtain ⟨b21, b22⟩ := mul_bdK (x := M) (y := D) h2.1.1 h2.1.2 h1.2.1 h1.2.2
  have HX := Lib.hid (box2 (cs := #[.int .i64 N, .int .i64 D]) (T := 80) (ds := #[.int .i64 M, .int .i64 E]) (T' := 80) (Below.refl _ _) (w := w))
  have HR := Lib.hid hr
  clear hr h1 h2
  go_enter Try.func83, Try.ntmps83
  go_wp2_with fail
  go_ret
  exact ⟨ret_bool HR.out, HX.out.1⟩
set_option maxRecDepth 20000 in
set_option maxHeartbeats 3200000 in
theorem error_impl (A : Option Addr) (n c : Nat) (L : List XD) (l x y : Int) (hx : szI (mfN (crF L l)) = x) (hy : mfD (crF L l) = y) (w : World) (hs : SdsX w w.heap.size A n L) (hg : Good10 L) (h0 : 0 < loN L l L.length) :
    Calls Try.prog 82 #[.slice A n c, .int .i64 l] w fun e w' => e = .returned (.agg #[.int .i64 x, .int .i64 y]) ∧ Below w.heap.size w w' := by
  obtain rfl := hs.1
  have h10 := hg.max
  have HZ0 := box1 (w := w) (cs := #[.int .i64 0, .int .i64 0]) (T := 80) (Below.refl _ _)
  have HS := Lib.hid (sds_atX hs HZ0.1)
  have HG := Lib.hid hg
  have hpos : 0 < (crF L l).length := by have := (lo_all L l).2; omega
  have hcl : (crF L l).length ≤ 10 := (smX_line hg l).max
  obtain ⟨z, hz⟩ : ∃ z, mfN (crF L l) = z := ⟨_, rfl⟩
  obtain ⟨⟨z1, z2⟩, _⟩ := mf_bd (smX_line hg l) hpos
  rw [hz] at hx z1 z2
  have HZX := Lib.hid (And.intro hz (And.intro hy hx))
  have HZ := Lib.hid HZ0
  have HSL : Hid (w.heap.size < (w.alloc (.cells #[.int .i64 0, .int .i64 0] 80)).heap.size) := Lib.hid (by simp)
  clear hs hg hz hx hy HZ0 h0
  go_enter Try.func82, Try.ntmps82
  go_wp2_with fail
  refine (cross_impl _ _ _ L l _ HS.out h10).mono ?_
  rintro e W1 ⟨A2, c2, hc2, rfl, ho, hb⟩
  have HO := Lib.hid ho.sds
  have HB1 := Lib.hid (bthen HZ.out.1 hb HZ.out.1.size)
  have HZ1 := Lib.hid (HZ.out.2.next hb)
  clear hb ho
  go_wp2_with fail
  refine (meanOf_impl _ _ _ (crF L l) z y HZX.out.1 HZX.out.2.1 _ HO.out (smX_line HG.out l) hpos).mono ?_
  rintro e W2 ⟨rfl, hb⟩
  have HB2 := Lib.hid (bthen HB1.out hb HB1.out.size)
  have HZ2 := Lib.hid (HZ1.out.next hb)
  clear hb
  obtain ⟨X, hX⟩ : ∃ W, W = W2.alloc (.cells #[.int .i64 z, .int .i64 y] 80) := ⟨_, rfl⟩
  have HX9 : Hid (Below W2.heap.size W2 X ∧ Has X W2.heap.size [.int .i64 z, .int .i64 y]) := by rw [hX]; exact box1 (Below.refl _ _)
  have HE := Lib.hid hX
  have HB3 := Lib.hid (bthen HB2.out HX9.out.1 HB2.out.size)
  have HZ3 := Lib.hid (HZ2.out.next HX9.out.1)
  clear hX
  go_upto_region 2 with fail
  rw [← HE.out]
  clear HE
  have e0 := HX9.out.2.at_ 0 _ rfl
  have e1 := HX9.out.2.at_ 1 _ rfl
  have lc0 := lcell e0
  have lc1 := lcell e1
  refine region_reads (W := X) 5 3 [0, 1, 3, 4] (by kernel_rfl) (by kernel_rfl) rfl (Below.refl _ _) (fun d _ _ _ _ h => by cases d <;> exact h) ?_
  simp only [picks, List.getElem?_cons_succ, List.getElem?_cons_zero]
  repeat (go_big_quiet_step (fail))
  refine wpQuiet_nil ?_
  intro W3 hW1
  have HL0 : Hid (Below X.heap.size X W3) := by obtain ⟨x, rfl⟩ := hW1; exact Lib.hid x.below
  clear hW1 lc0 lc1 e0 e1
  refine wpAnyN_one (i := 2) (by kernel_rfl) ?_
  refine wpOp_step rfl (fun K hK => ?_)
  rw [if_pos (by rfl)]
  go_simp
  refine (szX_v z x HZX.out.2.2 _ (by omega) (by omega)).mono ?_
  rintro e w9 ⟨rfl, hw9⟩
  rw [← hw9]
  clear hw9
  refine hK _ _ ⟨⟨⟨_, HL0.out⟩, rfl⟩, ?_⟩
  clear hK K
  refine wpAnyN_end rfl (by kernel_rfl) rfl ?_
  simp only [List.drop_succ_cons, List.drop_zero]
  have HN := Lib.hid (And.intro (bthen HB3.out HL0.out HB3.out.size) (HZ3.out.next HL0.out))
  have z0 := HN.out.2.at_ 0 _ rfl
  have z1' := HN.out.2.at_ 1 _ rfl
  have zf0 := HN.out.2.free 0
  have zf1 := HN.out.2.free 1
  go_wp2_with fail
  refine bodyPost_ret (v := .agg #[.int .i64 x, .int .i64 y]) (by simp [results, Try.results82, go_sem, z0, z1']) rfl ⟨rfl, ?_⟩
  repeat (first | exact HN.out.1 | refine Below.setCell ?_ (by simp; try omega) _)
/-! ### Which of two lines is worse -/
def lessX (L : List XD) (a b : Int) : Bool := decide (szI (mfN (crF L b)) * mfD (crF L a) < szI (mfN (crF L a)) * mfD (crF L b))
set_option maxRecDepth 20000 in
set_option maxHeartbeats 3200000 in
theorem worse_any (p : Nat) (A : Option Addr) (n c : Nat) (L : List XD) (a b : Int) (r : Bool) (hr : lessX L a b = r) (w : World) (hp : w.cell? ⟨p, 0, none⟩ = some (.slice A n c)) (hs : SdsX w w.heap.size A n L) (hg : Good10 L) (ha : 0 < loN L a L.length) (hb : 0 < loN L b L.length) :
    Calls Try.prog 81 #[.int .i64 a, .int .i64 b, .pointer (some ⟨p, 0, none⟩)] w fun e w' => e = .returned (.bool r) ∧ Below w.heap.size w w' := by
  obtain rfl := hs.1
  have HS := Lib.hid hs
  have HGG := Lib.hid (And.intro hg (And.intro ha hb))
  have hpa : 0 < (crF L a).length := by have := (lo_all L a).2; omega
  have hpb : 0 < (crF L b).length := by have := (lo_all L b).2; omega
  have q1 := mf_bd (smX_line hg a) hpa
  have q2 := mf_bd (smX_line hg b) hpb
  obtain ⟨x, hx⟩ : ∃ x, szI (mfN (crF L a)) = x := ⟨_, rfl⟩
  obtain ⟨y, hy⟩ : ∃ y, mfD (crF L a) = y := ⟨_, rfl⟩
  obtain ⟨x', hx'⟩ : ∃ x, szI (mfN (crF L b)) = x := ⟨_, rfl⟩
  obtain ⟨y', hy'⟩ : ∃ y, mfD (crF L b) = y := ⟨_, rfl⟩
  have hxb : 0 ≤ x ∧ x ≤ 210000 := by rw [← hx]; unfold szI; omega
  have hxb' : 0 ≤ x' ∧ x' ≤ 210000 := by rw [← hx']; unfold szI; omega
  rw [hy] at q1
  rw [hy'] at q2
  have h1 : (0 ≤ x ∧ x ≤ 210000) ∧ 0 ≤ y ∧ y ≤ 10 := ⟨hxb, by omega, q1.2.2⟩
  have h2 : (0 ≤ x' ∧ x' ≤ 210000) ∧ 0 ≤ y' ∧ y' ≤ 10 := ⟨hxb', by omega, q2.2.2⟩
  unfold lessX at hr
  rw [hx, hy, hx', hy'] at hr
  have HR := Lib.hid hr
  have HX := Lib.hid (And.intro hx (And.intro hy (And.intro hx' hy')))
  have HBD := Lib.hid (And.intro h1 h2)
  clear hs hg ha hb hpa hpb q1 q2 hx hy hx' hy' hxb hxb' h1 h2 hr
  obtain ⟨W0, rfl⟩ : ∃ W : World, W = w := ⟨_, rfl⟩
  have HEA : Hid (∀ W : World, Below W0.heap.size W0 W → Calls Try.prog 82 #[.slice A L.length c, .int .i64 a] W fun e w' => e = .returned (.agg #[.int .i64 x, .int .i64 y]) ∧ Below W.heap.size W w') := Lib.hid fun W hW => error_impl A L.length c L a x y HX.out.1 HX.out.2.1 W (sds_atX HS.out hW) HGG.out.1 HGG.out.2.1
  have HEB : Hid (∀ W : World, Below W0.heap.size W0 W → Calls Try.prog 82 #[.slice A L.length c, .int .i64 b] W fun e w' => e = .returned (.agg #[.int .i64 x', .int .i64 y']) ∧ Below W.heap.size W w') := Lib.hid fun W hW => error_impl A L.length c L b x' y' HX.out.2.2.1 HX.out.2.2.2 W (sds_atX HS.out hW) HGG.out.1 HGG.out.2.2
  have HAV : Hid (∀ W : World, Calls Try.prog 83 #[.agg #[.int .i64 x, .int .i64 y], .agg #[.int .i64 x', .int .i64 y']] W fun e w' => e = .returned (.bool r) ∧ Below W.heap.size W w') := Lib.hid fun W => aboveX x y x' y' r HR.out W HBD.out.1 HBD.out.2
  clear HX HBD HR HGG
  go_enter Try.func81, Try.ntmps81
  go_wp2_with fail
  have lc0 := lcell (hp)
  refine region_later (W := W0) (by kernel_rfl) (by kernel_rfl) (Below.refl _ _) ?_
  repeat (go_big_quiet_step (((first | (go_at_call 82; with_reducible exact later_call (HEA.out _ (Later.below _))) | (go_at_call 82; with_reducible exact later_call (HEB.out _ (Later.below _))) | (go_at_call 83; with_reducible exact later_call (HAV.out _))))))
  refine wpQuiet_nil ?_
  intro W1 hW1
  have HL : Hid (Below W0.heap.size W0 W1) := by obtain ⟨x, rfl⟩ := hW1; exact Lib.hid x.below
  clear hW1 lc0
  have HB2 := HL
  go_wp2_with fail
  go_ret
  exact ⟨rfl, HB2.out⟩
/-! ### The first of several numbers than which none is worse -/
theorem wm_hit {L : List XD} {ls : List Int} {k m : Nat} {a b : Int} (hm : m = wmK L ls (k - 1)) (hk : 0 < k) (ha : ls[k]? = some a) (hb : ls[m]? = some b) (h : lessX L a b = true) : k = wmK L ls (k + 1 - 1) := by
  obtain ⟨j, rfl⟩ : ∃ j, k = j + 1 := ⟨k - 1, by omega⟩
  rw [Nat.add_sub_cancel] at hm ⊢
  have e1 : ls.getD (j + 1) 0 = a := by rw [List.getD_eq_getElem?_getD, ha]; rfl
  have e2 : ls.getD m 0 = b := by rw [List.getD_eq_getElem?_getD, hb]; rfl
  rw [wmK, ← hm, e1, e2, if_pos (of_decide_eq_true h)]
theorem wm_miss {L : List XD} {ls : List Int} {k m : Nat} {a b : Int} (hm : m = wmK L ls (k - 1)) (ha : ls[k]? = some a) (hb : ls[m]? = some b) (h : lessX L a b = false) : m = wmK L ls (k + 1 - 1) := by
  rcases Nat.eq_zero_or_pos k with rfl | hk
  · exact hm
  · obtain ⟨j, rfl⟩ : ∃ j, k = j + 1 := ⟨k - 1, by omega⟩
    rw [Nat.add_sub_cancel] at hm ⊢
    have e1 : ls.getD (j + 1) 0 = a := by rw [List.getD_eq_getElem?_getD, ha]; rfl
    have e2 : ls.getD m 0 = b := by rw [List.getD_eq_getElem?_getD, hb]; rfl
    rw [wmK, ← hm, e1, e2, if_neg (of_decide_eq_false h)]
theorem less_self (L : List XD) (a : Int) : lessX L a a = false := decide_eq_false (Int.lt_irrefl _)
set_option maxRecDepth 20000 in
set_option maxHeartbeats 3200000 in
theorem mostI_impl (g n c p : Nat) (A : Option Addr) (nn cc : Nat) (L : List XD) (ls : List Int) (x : Nat) (hx : wmK L ls (ls.length - 1) = x) (w : World) (hn : ls.length = n) (hI : ∀ j v, ls[j]? = some v → w.cell? ⟨g, j, none⟩ = some (.int .i64 v)) (hp : w.cell? ⟨p, 0, none⟩ = some (.slice A nn cc)) (hs : SdsX w w.heap.size A nn L) (hg : Good10 L) (hl : ∀ l, l ∈ ls → 0 < loN L l L.length) (h0 : 0 < n) (h100 : n ≤ 100) :
    Calls Try.prog 80 #[.slice (some ⟨g, 0, none⟩) n c, .func (.func 81) #[] #[.pointer (some ⟨p, 0, none⟩)]] w fun e w' => e = .returned (.int .i64 x) ∧ Below w.heap.size w w' := by
  subst hn
  have HI := Lib.hid hI
  have HPS := Lib.hid (And.intro hp hs)
  have HG := Lib.hid (And.intro hg hl)
  have HXX := Lib.hid hx
  clear hI hp hs hg hl hx
  go_enter Try.func80, Try.ntmps80
  go_wp2_with fail
  go_loopw [5, 10] (fun q i wr => ∃ k m : Nat, k ≤ ls.length ∧ m < ls.length ∧ i = .int .i64 k ∧ q = .int .i64 m ∧ Hid (m = wmK L ls (k - 1)) ∧ Hid (k = 0 → m = 0) ∧ Hid (Below w.heap.size w wr)) (fun _ i _ => ls.length - (intOf i).toNat)
  case atStart => exact ⟨0, 0, Nat.zero_le _, h0, rfl, rfl, Lib.hid rfl, Lib.hid (fun _ => rfl), Lib.hid (Below.refl _ _)⟩
  case round =>
    obtain ⟨k, m, hk, hml, rfl, rfl, hM, hM0, hB⟩ := hrel
    by_cases hlt : k < ls.length
    · obtain ⟨a, ha⟩ : ∃ a, ls[k]? = some a := ⟨_, List.getElem?_eq_getElem hlt⟩
      obtain ⟨b, hb⟩ : ∃ b, ls[m]? = some b := ⟨_, List.getElem?_eq_getElem hml⟩
      have ca := cell_next (Below.mono hB.out (Nat.le_refl _)) (HI.out k a ha)
      have cb := cell_next (Below.mono hB.out (Nat.le_refl _)) (HI.out m b hb)
      have HAB := Lib.hid (And.intro (HG.out.2 a (List.mem_of_getElem? ha)) (HG.out.2 b (List.mem_of_getElem? hb)))
      obtain ⟨r, hr⟩ : ∃ r, lessX L a b = r := ⟨_, rfl⟩
      have HR := Lib.hid hr
      have HN : Hid ((r = true → k = wmK L ls (k + 1 - 1)) ∧ (r = false → m = wmK L ls (k + 1 - 1))) := by
        refine Lib.hid ⟨fun h => ?_, fun h => ?_⟩
        · rcases Nat.eq_zero_or_pos k with h0 | h0
          · exfalso
            have e := hM0.out h0
            have e2 : b = a := by rw [h0] at ha; rw [e] at hb; exact Option.some.inj (hb.symm.trans ha)
            rw [e2, less_self] at hr
            rw [← hr] at h; cases h
          · exact wm_hit hM.out h0 ha hb (hr.trans h)
        · exact wm_miss hM.out ha hb (hr.trans h)
      have HP1 := Lib.hid (And.intro (cell_next (Below.mono hB.out (Nat.le_refl _)) HPS.out.1) (sds_atX HPS.out.2 hB.out))
      clear ha hb hr
      rcases r with _ | _
      · go_wp2_with fail
        refine (worse_any p A nn cc L a b _ HR.out _ HP1.out.1 HP1.out.2 HG.out.1 HAB.out.1 HAB.out.2).mono ?_
        rintro e w2 ⟨rfl, hb⟩
        have HB2 := Lib.hid (bthen hB.out hb hB.out.size)
        clear hb ca cb
        go_wp2_with fail
        go_roundw
        case rel => exact ⟨k + 1, m, by omega, hml, by go_num, rfl, Lib.hid (HN.out.2 (by simp)), Lib.hid (fun h => by omega), HB2⟩
        case measure => simp [intOf]; omega
      · go_wp2_with fail
        refine (worse_any p A nn cc L a b _ HR.out _ HP1.out.1 HP1.out.2 HG.out.1 HAB.out.1 HAB.out.2).mono ?_
        rintro e w2 ⟨rfl, hb⟩
        have HB2 := Lib.hid (bthen hB.out hb hB.out.size)
        clear hb ca cb
        go_wp2_with fail
        go_roundw
        case rel => exact ⟨k + 1, k, by omega, hlt, by go_num, rfl, Lib.hid (HN.out.1 (by simp)), Lib.hid (fun h => by omega), HB2⟩
        case measure => simp [intOf]; omega
    · obtain rfl : k = ls.length := by omega
      have HR : Hid ((m : Int) = x) := by unfold Hid; rw [hM.out, HXX.out]
      go_wp2_with fail
      go_ret
      exact ⟨ret_int HR.out, hB.out⟩
end Go.Proofs.Ytlakdlghkniegaa
