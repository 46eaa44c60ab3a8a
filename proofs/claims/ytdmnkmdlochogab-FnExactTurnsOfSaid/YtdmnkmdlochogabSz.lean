/-
  The order in which lines are sailed, by insertion: contract of spec.l9Order over this translation. Conditions: stated at each theorem.
-/
import Derived.Test.YtdmnkmdlochogabSx
namespace Go.Proofs.Ytdmnkmdlochogab
open Go.RowKit
set_option linter.unusedVariables false

/-- v may be put behind the first k of M. -/
structure InsAt (v : LN) (M : List LN) (k : Nat) : Prop where
  le : k ≤ M.length
  rest : ∀ p, k ≤ p → p < M.length → v.y < (lnAt M p).y
theorem insAt_end {v : LN} {M : List LN} {k : Nat} (h : InsAt v M k) (hs : ∀ p q : Nat, p < q → q < M.length → (lnAt M p).y ≤ (lnAt M q).y) (hk : ∀ p, p + 1 = k → ¬ v.y < (lnAt M p).y) : insS v M = M.take k ++ v :: M.drop k := by
  induction M generalizing k with
  | nil => obtain rfl : k = 0 := by have := h.le; simpa using this
           rfl
  | cons u M ih =>
    rw [insS]
    rcases k with _ | k
    · have h0 : v.y < u.y := h.rest 0 (Nat.zero_le _) (by simp)
      rw [if_pos h0]
      rfl
    · have hu : ¬ v.y < u.y := by
        intro hlt
        have h1 := hk k rfl
        rcases k with _ | k
        · exact h1 hlt
        · have h2 := hs 0 (k + 1) (by omega) (by have := h.le; simp at this ⊢; omega)
          have e : (lnAt (u :: M) 0) = u := rfl
          rw [e] at h2
          omega
      rw [if_neg hu, List.take_succ_cons, List.drop_succ_cons, List.cons_append]
      congr 1
      have sh : ∀ p, lnAt (u :: M) (p + 1) = lnAt M p := fun p => rfl
      refine ih ⟨by have := h.le; simpa using this, fun p h1 h2 => ?_⟩ (fun p q h1 h2 => ?_) (fun p e => ?_)
      · have := h.rest (p + 1) (by omega) (by simp; omega)
        rwa [sh] at this
      · have := hs (p + 1) (q + 1) (by omega) (by simp; omega)
        rwa [sh, sh] at this
      · have := hk (p + 1) (by omega)
        rwa [sh] at this
theorem ord_y {L : List LN} (h : Good9 L) {i : Nat} (hi : i ≤ L.length) : ∀ p q : Nat, p < q → q < (ordK L i).length → (lnAt (ordK L i) p).y ≤ (lnAt (ordK L i) q).y := fun p q h1 h2 => by
  have hs := ordK_sorted (fun _ _ hpq hq => h.lt hpq hq) i hi
  have := (List.pairwise_iff_getElem.1 hs) p q (by omega) h2 h1
  rw [lnAt_at (List.getElem?_eq_getElem (show p < _ by omega)), lnAt_at (List.getElem?_eq_getElem h2)]
  unfold sbB at this
  omega
theorem ord_len {L : List LN} {i : Nat} (hi : i ≤ L.length) : (ordK L i).length = i := by
  rw [(ordK_perm L i hi).length_eq, List.length_take]; omega
def Part9 (w : World) (a : Addr) (l : List LN) : Prop := ∀ (j : Nat) (u : Value), (cellsSN l)[j]? = some u → w.cell? (a.add j) = some u
theorem Part9.next {w w' : World} {a : Addr} {l : List LN} (h : Part9 w a l) (hb : Below w.heap.size w w') : Part9 w' a l := fun j u hu => cell_next hb (h j u hu)
theorem cellsS_split (L : List LN) (k : Nat) : cellsSN L = cellsSN (L.take k) ++ cellsSN (L.drop k) := by
  unfold cellsSN
  rw [← List.flatMap_append, List.take_append_drop]
theorem part_own {w : World} {B g n c : Nat} {M : List LN} (h : w.ownsRow B 34 5 (.slice (some ⟨g, 0, none⟩) n c) n (cellsSN M)) (hl : M.length = n) {k : Nat} (hk : k ≤ n) : Part9 w ⟨g, 0, none⟩ (M.take k) ∧ Part9 w ⟨g, k * 5, none⟩ (M.drop k) := by
  have hlen := cellsS_lenN M
  have hlt := cellsS_lenN (M.take k)
  rw [List.length_take] at hlt
  refine ⟨fun j u hu => ?_, fun j u hu => ?_⟩
  · have hj := (List.getElem?_eq_some_iff.1 hu).1
    rw [add_none, Nat.zero_add, h.cellAt j (by omega), cellsS_split M k, List.getElem?_append_left hj]
    exact hu
  · have hj := (List.getElem?_eq_some_iff.1 hu).1
    have hld := cellsS_lenN (M.drop k)
    rw [List.length_drop] at hld
    rw [add_none, h.cellAt (k * 5 + j) (by omega), cellsS_split M k, List.getElem?_append_right (by omega), show k * 5 + j - (cellsSN (M.take k)).length = j by omega]
    exact hu
theorem part_none (w : World) (a : Addr) : Part9 w a [] := fun j u hu => by cases hu
theorem cells_oneN (L : List LN) : ∀ u ∈ cellsSN L, u.oneCell' = true := by
  intro u hu
  simp only [cellsSN, List.mem_flatMap, List.mem_cons, List.not_mem_nil, or_false] at hu
  obtain ⟨p, _, rfl | rfl | rfl | rfl | rfl⟩ := hu <;> rfl
theorem part_box {w : World} {g : Nat} {u : LN} (h : Has w g [.int .i64 u.id, .int .i64 u.y, .int .i64 u.fr, .int .i64 u.to, .int .i64 u.sw]) : ∀ (j : Nat) (x : Value), ([.int .i64 u.id, .int .i64 u.y, .int .i64 u.fr, .int .i64 u.to, .int .i64 u.sw] : List Value)[j]? = some x → w.cell? ((⟨g, 0, none⟩ : Addr).add j) = some x := fun j x hx => by
  rw [add_none, Nat.zero_add]; exact h.at_ j x hx
theorem own_caps {W : World} {B T z m : Nat} {v : Value} {xs : List Value} (h : W.ownsRow B T z v (m + 1) xs) : ∃ g cap, v = .slice (some ⟨g, 0, none⟩) (m + 1) cap ∧ m + 1 ≤ cap ∧ cap ≤ maxLen := by
  rcases h.2 with ⟨_, e⟩ | ⟨g, cap, cur, e, _, _, h1, h2, _⟩
  · omega
  · exact ⟨g, cap, e, h1, h2⟩
theorem row_apart {W : World} {B T z n : Nat} {v : Value} {xs : List Value} (h : W.ownsRow B T z v n xs) : some W.heap.size ≠ v.ownBlock := fun e => by
  have := (h.lt _ e.symm).2
  omega
set_option maxRecDepth 20000 in
set_option maxHeartbeats 12800000 in
theorem order_spec (A : Option Addr) (n c : Nat) (L : List LN) (hg : Good9 L) (w : World) (hs : SdsN w w.heap.size A n L) (hm : n ≤ maxLen) :
    Calls Try.prog 95 #[.slice A n c] w (SortedPost L w) := by
  obtain rfl := hs.1
  have h8 := hg.max
  have HS := Lib.hid hs
  have HG := Lib.hid hg
  obtain ⟨i0, hi, hz0, hz1, hz2⟩ := info_parts infoSoundN
  have HI := Lib.hid (And.intro hi (And.intro hz0 (And.intro hz1 hz2)))
  clear hi hz0 hz1 hz2 hs hg
  have HN0 : Hid (Col w 34 5 (.slice (some ⟨w.heap.size, 0, none⟩) 0 0) 0 (cellsSN (ordK L 0)) (w.alloc (.cells #[] 34))) := Lib.hid (col_start 34 5 (Below.refl _ _))
  go_enter Try.func95, Try.ntmps95
  go_wp2_with fail
  go_loopw [3, 4] (fun s z wr => ∃ (i g C : Nat), i ≤ L.length ∧ i ≤ C ∧ C ≤ maxLen ∧ s = .slice (some ⟨g, 0, none⟩) i C ∧ z = .int .i64 i ∧ Hid (Col w 34 5 (.slice (some ⟨g, 0, none⟩) i C) i (cellsSN (ordK L i)) wr)) (fun _ z _ => L.length - (intOf z).toNat)
  case atStart => exact ⟨0, _, 0, Nat.zero_le _, Nat.le_refl _, by unfold maxLen; omega, rfl, rfl, HN0⟩
  case round =>
    obtain ⟨i, g, C, hiL, hiC, hCm, rfl, rfl, hR⟩ := hrel
    by_cases hlt : i < L.length
    · obtain ⟨b, o, u, rfl, hbl, hL, c0, c1, c2, c3, c4⟩ := HS.out.2 i hlt
      have HU := Lib.hid (lnAt_at hL)
      have HLN := Lib.hid (ord_len (L := L) hiL)
      clear hL
      go_wp2_with fail
      go_loopw [5] (fun z wr2 => ∃ k : Nat, k ≤ i ∧ z = .int .i64 k ∧ Hid (InsAt u (ordK L i) k) ∧ Hid (Col w 34 5 (.slice (some ⟨g, 0, none⟩) i C) i (cellsSN (ordK L i)) wr2)) (fun z _ => (intOf z).toNat)
      case atStart => exact ⟨i, Nat.le_refl _, rfl, Lib.hid ⟨by rw [HLN.out]; exact Nat.le_refl _, fun p h1 h2 => by rw [HLN.out] at h2; omega⟩, hR⟩
      case round =>
        obtain ⟨k, hki, rfl, hI, hC⟩ := hrel
        obtain ⟨wq, hwq⟩ : ∃ wq : World, wq = wr := ⟨_, rfl⟩
        rw [← hwq] at hC ⊢
        clear hwq
        have d1 := (hC.out.2.cell (p := ⟨b, o + i * 5 + 1, none⟩) hbl).trans c1
        rcases k with _ | k
        · have HIQ : Hid (insS u (ordK L i) = (ordK L i).take 0 ++ u :: (ordK L i).drop 0) := Lib.hid (insAt_end hI.out (ord_y HG.out hiL) (fun p e => absurd e (by omega)))
          go_wp2_with fail
          have lc0 := lcell (d1)
          refine region_later (W := wq) (by kernel_rfl) (by kernel_rfl) (Below.refl _ _) ?_
          repeat (go_big_quiet_step ((fail)))
          refine wpQuiet_nil ?_
          intro W1 hW1
          have HL : Hid (Below wq.heap.size wq W1) := by obtain ⟨x, rfl⟩ := hW1; exact Lib.hid x.below
          clear hW1 lc0
          have HC1 := Lib.hid (hC.out.next HL.out)
          obtain ⟨P1, P2⟩ := part_own HC1.out.1 HLN.out (k := 0) hki
          have HPA0 := Lib.hid P1
          have HPB0 := Lib.hid P2
          clear P1 P2
          go_wp2_with fail
          have lc0 := lcell c0
          have lc1 := lcell c1
          have lc2 := lcell c2
          have lc3 := lcell c3
          have lc4 := lcell c4
          refine region_readsL (W := w) 15 6 [1, 2, 3, 5, 6, 7, 8, 11, 12, 13] (by kernel_rfl) (by kernel_rfl) rfl HC1.out.2 (fun d _ _ _ _ h => by cases d <;> exact h) ?_
          simp only [picks, List.getElem?_cons_succ, List.getElem?_cons_zero]
          repeat (go_big_quiet_step (fail))
          refine wpQuiet_nil ?_
          clear lc0 lc1 lc2 lc3 lc4
          obtain ⟨WD, hWD⟩ : ∃ WD, WD = W1.drew := ⟨_, rfl⟩
          rw [← hWD]
          have hbd : Below W1.heap.size W1 WD := by rw [hWD]; exact (Below.refl _ _).drew
          have HCD := Lib.hid (HC1.out.next hbd)
          have HPA := Lib.hid (HPA0.out.next hbd)
          obtain ⟨O3, hO3⟩ : ∃ O3 : Addr, O3 = ⟨g, 0, none⟩ := ⟨_, rfl⟩
          have HPB : Hid (Part9 WD O3 ((ordK L i).drop 0)) := by rw [hO3]; have h := HPB0.out.next hbd; rw [Nat.zero_mul] at h; exact Lib.hid h
          have h36 : (Value.slice (some ⟨g, 0, none⟩) i C) = Value.slice (some O3) i C := by rw [hO3]
          clear hWD hbd HL hO3
          have HLT : Hid ((cellsSN ((ordK L i).take 0)).length = 0 * 5) := Lib.hid (by rw [cellsS_lenN, List.length_take, HLN.out] <;> omega)
          have HLD : Hid ((cellsSN ((ordK L i).drop 0)).length = i * 5) := Lib.hid (by rw [cellsS_lenN, List.length_drop, HLN.out] <;> omega)
          have HBWD := Lib.hid (Below.refl WD.heap.size WD)
          refine wpAnyN_two (i := 0) (i' := 9) (by kernel_rfl) ?_ ?_
          · refine wpOp_step rfl (fun K hK => ?_)
            rw [if_pos (by rfl)]
            have HBB := Lib.hid (HBWD.out.alloc HBWD.out.size (.cells #[] 34))
            have HCC := Lib.hid (col_start 34 5 HBWD.out)
            go_simp
            refine hK _ _ ⟨⟨⟨_, bthen HCD.out.2 HBB.out HCD.out.2.size⟩, rfl⟩, ?_⟩
            clear hK K
            obtain ⟨Y0, hX⟩ : ∃ V, V = WD.alloc (.cells #[] 34) := ⟨_, rfl⟩
            rw [← hX]
            rw [← hX] at HBB HCC
            clear hX
            have HBY0 := HBB
            clear HBB
            have HCY0 := HCC
            clear HCC
            refine wpAnyN_two (i := 4) (i' := 9) (by kernel_rfl) ?_ ?_
            · refine wpOp_step rfl (fun K hK => ?_)
              rw [if_pos (by rfl)]
              refine wp_append_own _ _ _ 28 rfl WD.heap.size 34 i0 (.agg #[.int .i64 0, .int .i64 0, .int .i64 0, .int .i64 0, .int .i64 0]) 5 40 Try.underlying28 HI.out.1 HI.out.2.1 HI.out.2.2.1 HI.out.2.2.2 rfl (by decide) _ _ _ rfl HCY0.out.1 ⟨g, 0, none⟩ 0 C (cellsSN ((ordK L i).take 0)) rfl (HLT.out) (HPA.out.next HCY0.out.2) (cells_oneN _) (by unfold maxLen; omega) (by omega) HCY0.out.2.size ?_
              intro v' Y1 hown hgrow _
              have HCY1 := Lib.hid (HCY0.out.grow hown hgrow)
              clear hown hgrow
              refine hK _ _ ⟨⟨⟨_, bthen HCD.out.2 HCY1.out.2 HCD.out.2.size⟩, rfl⟩, ?_⟩
              clear hK K
              refine wpAnyN_one (i := 9) (by kernel_rfl) ?_
              have HBY1 := Lib.hid HCY1.out.2
              refine wpOp_step rfl (fun K hK => ?_)
              rw [if_pos (by rfl)]
              have HBB := Lib.hid (HBY1.out.alloc HBY1.out.size (.cells #[.int .i64 u.id, .int .i64 u.y, .int .i64 u.fr, .int .i64 u.to, .int .i64 u.sw] 34))
              have HGG := Lib.hid (Has.new Y1 #[.int .i64 u.id, .int .i64 u.y, .int .i64 u.fr, .int .i64 u.to, .int .i64 u.sw] 34)
              have HCC := Lib.hid (HCY1.out.next (box1 (Below.refl _ _) (w := Y1) (cs := #[.int .i64 u.id, .int .i64 u.y, .int .i64 u.fr, .int .i64 u.to, .int .i64 u.sw]) (T := 34)).1)
              go_simp
              refine hK _ _ ⟨⟨⟨_, bthen HCD.out.2 HBB.out HCD.out.2.size⟩, rfl⟩, ?_⟩
              clear hK K
              obtain ⟨Y2, hX⟩ : ∃ V, V = Y1.alloc (.cells #[.int .i64 u.id, .int .i64 u.y, .int .i64 u.fr, .int .i64 u.to, .int .i64 u.sw] 34) := ⟨_, rfl⟩
              rw [← hX]
              rw [← hX] at HBB HGG HCC
              clear hX
              have HBY2 := HBB
              clear HBB
              have HGY2 := HGG
              clear HGG
              have HCY2 := HCC
              clear HCC
              refine wpAnyN_one (i := 10) (by kernel_rfl) ?_
              refine wpOp_step rfl (fun K hK => ?_)
              rw [if_pos (by rfl)]
              refine wp_append_own _ _ _ 28 rfl WD.heap.size 34 i0 (.agg #[.int .i64 0, .int .i64 0, .int .i64 0, .int .i64 0, .int .i64 0]) 5 40 Try.underlying28 HI.out.1 HI.out.2.1 HI.out.2.2.1 HI.out.2.2.2 rfl (by decide) _ _ _ rfl HCY2.out.1 ⟨Y1.heap.size, 0, none⟩ 1 1 ([.int .i64 u.id, .int .i64 u.y, .int .i64 u.fr, .int .i64 u.to, .int .i64 u.sw]) rfl (rfl) (part_box HGY2.out) (by simp [Value.oneCell']) (by unfold maxLen; omega) (by omega) HCY2.out.2.size ?_
              intro v' Y3 hown hgrow _
              have HCY3 := Lib.hid (HCY2.out.grow hown hgrow)
              clear hown hgrow
              refine hK _ _ ⟨⟨⟨_, bthen HCD.out.2 HCY3.out.2 HCD.out.2.size⟩, rfl⟩, ?_⟩
              clear hK K
              refine wpAnyN_one (i := 14) (by kernel_rfl) ?_
              refine wpOp_step rfl (fun K hK => ?_)
              rw [if_pos (by rfl)]
              refine wp_append_own _ _ _ 28 rfl WD.heap.size 34 i0 (.agg #[.int .i64 0, .int .i64 0, .int .i64 0, .int .i64 0, .int .i64 0]) 5 40 Try.underlying28 HI.out.1 HI.out.2.1 HI.out.2.2.1 HI.out.2.2.2 rfl (by decide) _ _ _ rfl HCY3.out.1 O3 i C (cellsSN ((ordK L i).drop 0)) rfl (HLD.out) (HPB.out.next HCY3.out.2) (cells_oneN _) (by unfold maxLen; omega) (by omega) HCY3.out.2.size ?_
              intro v' Y4 hown hgrow _
              have HCY4 := Lib.hid (HCY3.out.grow hown hgrow)
              clear hown hgrow
              refine hK _ _ ⟨⟨⟨_, bthen HCD.out.2 HCY4.out.2 HCD.out.2.size⟩, rfl⟩, ?_⟩
              clear hK K
              have HF : Hid (Col w 34 5 v' (i + 1) (cellsSN (ordK L (i + 1))) Y4) := by
                have h := HCY4.out.1
                have e : 0 + 0 + 1 + i = i + 1 := by omega
                rw [e] at h
                have e2 : cellsSN (ordK L (i + 1)) = [] ++ cellsSN ((ordK L i).take 0) ++ [.int .i64 u.id, .int .i64 u.y, .int .i64 u.fr, .int .i64 u.to, .int .i64 u.sw] ++ cellsSN ((ordK L i).drop 0) := by
                  rw [show ordK L (i + 1) = insS (lnAt L i) (ordK L i) from rfl, HU.out, HIQ.out]
                  simp [cellsSN]
                rw [← e2] at h
                exact Lib.hid ⟨own_base h HCD.out.2.size, bthen HCD.out.2 HCY4.out.2 HCD.out.2.size⟩
              obtain ⟨g2, C2, hv2, hc2, hc3⟩ := own_caps HF.out.1
              subst hv2
              refine wpAnyN_end rfl (by kernel_rfl) rfl ?_
              simp only [List.drop_succ_cons, List.drop_zero]
              go_wp2_with fail
              go_roundw
              case rel => first | exact ⟨i + 1, g2, C2, by omega, hc2, hc3, rfl, by go_num, HF⟩ | ((repeat apply Exists.intro); exact ⟨⟨i + 1, g2, C2, by omega, hc2, hc3, rfl, by go_num, HF⟩, rfl⟩)
              case measure => simp [intOf]; omega
            · refine wpOp_step rfl (fun K hK => ?_)
              rw [if_pos (by rfl)]
              have HBB := Lib.hid (HBY0.out.alloc HBY0.out.size (.cells #[.int .i64 u.id, .int .i64 u.y, .int .i64 u.fr, .int .i64 u.to, .int .i64 u.sw] 34))
              have HGG := Lib.hid (Has.new Y0 #[.int .i64 u.id, .int .i64 u.y, .int .i64 u.fr, .int .i64 u.to, .int .i64 u.sw] 34)
              have HCC := Lib.hid (HCY0.out.next (box1 (Below.refl _ _) (w := Y0) (cs := #[.int .i64 u.id, .int .i64 u.y, .int .i64 u.fr, .int .i64 u.to, .int .i64 u.sw]) (T := 34)).1)
              go_simp
              refine hK _ _ ⟨⟨⟨_, bthen HCD.out.2 HBB.out HCD.out.2.size⟩, rfl⟩, ?_⟩
              clear hK K
              obtain ⟨Y1, hX⟩ : ∃ V, V = Y0.alloc (.cells #[.int .i64 u.id, .int .i64 u.y, .int .i64 u.fr, .int .i64 u.to, .int .i64 u.sw] 34) := ⟨_, rfl⟩
              rw [← hX]
              rw [← hX] at HBB HGG HCC
              clear hX
              have HBY1 := HBB
              clear HBB
              have HGY1 := HGG
              clear HGG
              have HCY1 := HCC
              clear HCC
              refine wpAnyN_one (i := 4) (by kernel_rfl) ?_
              refine wpOp_step rfl (fun K hK => ?_)
              rw [if_pos (by rfl)]
              refine wp_append_own _ _ _ 28 rfl WD.heap.size 34 i0 (.agg #[.int .i64 0, .int .i64 0, .int .i64 0, .int .i64 0, .int .i64 0]) 5 40 Try.underlying28 HI.out.1 HI.out.2.1 HI.out.2.2.1 HI.out.2.2.2 rfl (by decide) _ _ _ rfl HCY1.out.1 ⟨g, 0, none⟩ 0 C (cellsSN ((ordK L i).take 0)) rfl (HLT.out) (HPA.out.next HCY1.out.2) (cells_oneN _) (by unfold maxLen; omega) (by omega) HCY1.out.2.size ?_
              intro v' Y2 hown hgrow _
              have HCY2 := Lib.hid (HCY1.out.grow hown hgrow)
              have HGY2 := Lib.hid (has_grown HGY1.out hgrow (row_apart HCY0.out.1))
              clear hown hgrow
              refine hK _ _ ⟨⟨⟨_, bthen HCD.out.2 HCY2.out.2 HCD.out.2.size⟩, rfl⟩, ?_⟩
              clear hK K
              refine wpAnyN_one (i := 10) (by kernel_rfl) ?_
              refine wpOp_step rfl (fun K hK => ?_)
              rw [if_pos (by rfl)]
              refine wp_append_own _ _ _ 28 rfl WD.heap.size 34 i0 (.agg #[.int .i64 0, .int .i64 0, .int .i64 0, .int .i64 0, .int .i64 0]) 5 40 Try.underlying28 HI.out.1 HI.out.2.1 HI.out.2.2.1 HI.out.2.2.2 rfl (by decide) _ _ _ rfl HCY2.out.1 ⟨Y0.heap.size, 0, none⟩ 1 1 ([.int .i64 u.id, .int .i64 u.y, .int .i64 u.fr, .int .i64 u.to, .int .i64 u.sw]) rfl (rfl) (part_box HGY2.out) (by simp [Value.oneCell']) (by unfold maxLen; omega) (by omega) HCY2.out.2.size ?_
              intro v' Y3 hown hgrow _
              have HCY3 := Lib.hid (HCY2.out.grow hown hgrow)
              clear hown hgrow
              refine hK _ _ ⟨⟨⟨_, bthen HCD.out.2 HCY3.out.2 HCD.out.2.size⟩, rfl⟩, ?_⟩
              clear hK K
              refine wpAnyN_one (i := 14) (by kernel_rfl) ?_
              refine wpOp_step rfl (fun K hK => ?_)
              rw [if_pos (by rfl)]
              refine wp_append_own _ _ _ 28 rfl WD.heap.size 34 i0 (.agg #[.int .i64 0, .int .i64 0, .int .i64 0, .int .i64 0, .int .i64 0]) 5 40 Try.underlying28 HI.out.1 HI.out.2.1 HI.out.2.2.1 HI.out.2.2.2 rfl (by decide) _ _ _ rfl HCY3.out.1 O3 i C (cellsSN ((ordK L i).drop 0)) rfl (HLD.out) (HPB.out.next HCY3.out.2) (cells_oneN _) (by unfold maxLen; omega) (by omega) HCY3.out.2.size ?_
              intro v' Y4 hown hgrow _
              have HCY4 := Lib.hid (HCY3.out.grow hown hgrow)
              clear hown hgrow
              refine hK _ _ ⟨⟨⟨_, bthen HCD.out.2 HCY4.out.2 HCD.out.2.size⟩, rfl⟩, ?_⟩
              clear hK K
              have HF : Hid (Col w 34 5 v' (i + 1) (cellsSN (ordK L (i + 1))) Y4) := by
                have h := HCY4.out.1
                have e : 0 + 0 + 1 + i = i + 1 := by omega
                rw [e] at h
                have e2 : cellsSN (ordK L (i + 1)) = [] ++ cellsSN ((ordK L i).take 0) ++ [.int .i64 u.id, .int .i64 u.y, .int .i64 u.fr, .int .i64 u.to, .int .i64 u.sw] ++ cellsSN ((ordK L i).drop 0) := by
                  rw [show ordK L (i + 1) = insS (lnAt L i) (ordK L i) from rfl, HU.out, HIQ.out]
                  simp [cellsSN]
                rw [← e2] at h
                exact Lib.hid ⟨own_base h HCD.out.2.size, bthen HCD.out.2 HCY4.out.2 HCD.out.2.size⟩
              obtain ⟨g2, C2, hv2, hc2, hc3⟩ := own_caps HF.out.1
              subst hv2
              refine wpAnyN_end rfl (by kernel_rfl) rfl ?_
              simp only [List.drop_succ_cons, List.drop_zero]
              go_wp2_with fail
              go_roundw
              case rel => first | exact ⟨i + 1, g2, C2, by omega, hc2, hc3, rfl, by go_num, HF⟩ | ((repeat apply Exists.intro); exact ⟨⟨i + 1, g2, C2, by omega, hc2, hc3, rfl, by go_num, HF⟩, rfl⟩)
              case measure => simp [intOf]; omega
          · refine wpOp_step rfl (fun K hK => ?_)
            rw [if_pos (by rfl)]
            have HBB := Lib.hid (HBWD.out.alloc HBWD.out.size (.cells #[.int .i64 u.id, .int .i64 u.y, .int .i64 u.fr, .int .i64 u.to, .int .i64 u.sw] 34))
            have HGG := Lib.hid (Has.new WD #[.int .i64 u.id, .int .i64 u.y, .int .i64 u.fr, .int .i64 u.to, .int .i64 u.sw] 34)
            have HZZ : Hid ((WD.alloc (.cells #[.int .i64 u.id, .int .i64 u.y, .int .i64 u.fr, .int .i64 u.to, .int .i64 u.sw] 34)).heap.size = WD.heap.size + 1) := Lib.hid (World.size_alloc _ _)
            go_simp
            refine hK _ _ ⟨⟨⟨_, bthen HCD.out.2 HBB.out HCD.out.2.size⟩, rfl⟩, ?_⟩
            clear hK K
            obtain ⟨Y0, hX⟩ : ∃ V, V = WD.alloc (.cells #[.int .i64 u.id, .int .i64 u.y, .int .i64 u.fr, .int .i64 u.to, .int .i64 u.sw] 34) := ⟨_, rfl⟩
            rw [← hX]
            rw [← hX] at HBB HGG HZZ
            clear hX
            have HBY0 := HBB
            clear HBB
            have HGY0 := HGG
            clear HGG
            have HZY : Hid (Y0.heap.size = WD.heap.size + 1) := HZZ
            refine wpAnyN_one (i := 0) (by kernel_rfl) ?_
            refine wpOp_step rfl (fun K hK => ?_)
            rw [if_pos (by rfl)]
            have HBB := Lib.hid (HBY0.out.alloc HBY0.out.size (.cells #[] 34))
            have HCC := Lib.hid (col_start 34 5 HBY0.out)
            have HGG := Lib.hid (HGY0.out.next (box1 (Below.refl _ _) (w := Y0) (cs := #[]) (T := 34)).1)
            go_simp
            refine hK _ _ ⟨⟨⟨_, bthen HCD.out.2 HBB.out HCD.out.2.size⟩, rfl⟩, ?_⟩
            clear hK K
            obtain ⟨Y1, hX⟩ : ∃ V, V = Y0.alloc (.cells #[] 34) := ⟨_, rfl⟩
            rw [← hX]
            rw [← hX] at HBB HCC HGG
            clear hX
            have HBY1 := HBB
            clear HBB
            have HCY1 := HCC
            clear HCC
            have HGY1 := HGG
            clear HGG
            refine wpAnyN_one (i := 4) (by kernel_rfl) ?_
            refine wpOp_step rfl (fun K hK => ?_)
            rw [if_pos (by rfl)]
            refine wp_append_own _ _ _ 28 rfl WD.heap.size 34 i0 (.agg #[.int .i64 0, .int .i64 0, .int .i64 0, .int .i64 0, .int .i64 0]) 5 40 Try.underlying28 HI.out.1 HI.out.2.1 HI.out.2.2.1 HI.out.2.2.2 rfl (by decide) _ _ _ rfl HCY1.out.1 ⟨g, 0, none⟩ 0 C (cellsSN ((ordK L i).take 0)) rfl (HLT.out) (HPA.out.next HCY1.out.2) (cells_oneN _) (by unfold maxLen; omega) (by omega) HCY1.out.2.size ?_
            intro v' Y2 hown hgrow _
            have HCY2 := Lib.hid (HCY1.out.grow hown hgrow)
            have HGY2 := Lib.hid (has_grown HGY1.out hgrow (fun e => by have e2 : WD.heap.size = Y0.heap.size := Option.some.inj e; have := HZY.out; omega))
            clear hown hgrow
            refine hK _ _ ⟨⟨⟨_, bthen HCD.out.2 HCY2.out.2 HCD.out.2.size⟩, rfl⟩, ?_⟩
            clear hK K
            refine wpAnyN_one (i := 10) (by kernel_rfl) ?_
            refine wpOp_step rfl (fun K hK => ?_)
            rw [if_pos (by rfl)]
            refine wp_append_own _ _ _ 28 rfl WD.heap.size 34 i0 (.agg #[.int .i64 0, .int .i64 0, .int .i64 0, .int .i64 0, .int .i64 0]) 5 40 Try.underlying28 HI.out.1 HI.out.2.1 HI.out.2.2.1 HI.out.2.2.2 rfl (by decide) _ _ _ rfl HCY2.out.1 ⟨WD.heap.size, 0, none⟩ 1 1 ([.int .i64 u.id, .int .i64 u.y, .int .i64 u.fr, .int .i64 u.to, .int .i64 u.sw]) rfl (rfl) (part_box HGY2.out) (by simp [Value.oneCell']) (by unfold maxLen; omega) (by omega) HCY2.out.2.size ?_
            intro v' Y3 hown hgrow _
            have HCY3 := Lib.hid (HCY2.out.grow hown hgrow)
            clear hown hgrow
            refine hK _ _ ⟨⟨⟨_, bthen HCD.out.2 HCY3.out.2 HCD.out.2.size⟩, rfl⟩, ?_⟩
            clear hK K
            refine wpAnyN_one (i := 14) (by kernel_rfl) ?_
            refine wpOp_step rfl (fun K hK => ?_)
            rw [if_pos (by rfl)]
            refine wp_append_own _ _ _ 28 rfl WD.heap.size 34 i0 (.agg #[.int .i64 0, .int .i64 0, .int .i64 0, .int .i64 0, .int .i64 0]) 5 40 Try.underlying28 HI.out.1 HI.out.2.1 HI.out.2.2.1 HI.out.2.2.2 rfl (by decide) _ _ _ rfl HCY3.out.1 O3 i C (cellsSN ((ordK L i).drop 0)) rfl (HLD.out) (HPB.out.next HCY3.out.2) (cells_oneN _) (by unfold maxLen; omega) (by omega) HCY3.out.2.size ?_
            intro v' Y4 hown hgrow _
            have HCY4 := Lib.hid (HCY3.out.grow hown hgrow)
            clear hown hgrow
            refine hK _ _ ⟨⟨⟨_, bthen HCD.out.2 HCY4.out.2 HCD.out.2.size⟩, rfl⟩, ?_⟩
            clear hK K
            have HF : Hid (Col w 34 5 v' (i + 1) (cellsSN (ordK L (i + 1))) Y4) := by
              have h := HCY4.out.1
              have e : 0 + 0 + 1 + i = i + 1 := by omega
              rw [e] at h
              have e2 : cellsSN (ordK L (i + 1)) = [] ++ cellsSN ((ordK L i).take 0) ++ [.int .i64 u.id, .int .i64 u.y, .int .i64 u.fr, .int .i64 u.to, .int .i64 u.sw] ++ cellsSN ((ordK L i).drop 0) := by
                rw [show ordK L (i + 1) = insS (lnAt L i) (ordK L i) from rfl, HU.out, HIQ.out]
                simp [cellsSN]
              rw [← e2] at h
              exact Lib.hid ⟨own_base h HCD.out.2.size, bthen HCD.out.2 HCY4.out.2 HCD.out.2.size⟩
            obtain ⟨g2, C2, hv2, hc2, hc3⟩ := own_caps HF.out.1
            subst hv2
            refine wpAnyN_end rfl (by kernel_rfl) rfl ?_
            simp only [List.drop_succ_cons, List.drop_zero]
            go_wp2_with fail
            go_roundw
            case rel => first | exact ⟨i + 1, g2, C2, by omega, hc2, hc3, rfl, by go_num, HF⟩ | ((repeat apply Exists.intro); exact ⟨⟨i + 1, g2, C2, by omega, hc2, hc3, rfl, by go_num, HF⟩, rfl⟩)
            case measure => simp [intOf]; omega
        · have hkl : k < (ordK L i).length := by rw [HLN.out]; omega
          obtain ⟨g', cp, e', f0, f1, f2, f3, f4⟩ : ∃ v : LN, ∃ cp : Nat, lnAt (ordK L i) k = v ∧ wq.cell? ⟨g, k * 5, none⟩ = some (.int .i64 v.id) ∧ wq.cell? ⟨g, k * 5 + 1, none⟩ = some (.int .i64 v.y) ∧ True ∧ True ∧ True := by
            have hF := fillS_rowN hC.out.1 HLN.out
            obtain ⟨v, hv, k0, k1, _⟩ := hF.done k (by omega)
            exact ⟨v, 0, lnAt_at hv, k0, k1, trivial, trivial, trivial⟩
          have HE := Lib.hid e'
          clear e' f2 f3 f4
          by_cases hy : u.y < g'.y
          · have HI2 : Hid (InsAt u (ordK L i) k) := Lib.hid ⟨by omega, fun p h1 h2 => by
              by_cases e : p = k
              · subst e; rw [HE.out]; exact hy
              · exact hI.out.rest p (by omega) h2⟩
            have hd : decide (u.y < g'.y) = true := decide_eq_true hy
            go_wp2_with fail
            have lc0 := lcell (d1)
            have lc1 := lcell (f1)
            refine region_later (W := wq) (by kernel_rfl) (by kernel_rfl) (Below.refl _ _) ?_
            repeat (go_big_quiet_step ((fail)))
            refine wpQuiet_nil ?_
            intro W1 hW1
            have HL : Hid (Below wq.heap.size wq W1) := by obtain ⟨x, rfl⟩ := hW1; exact Lib.hid x.below
            clear hW1 lc0 lc1
            have HC1 := Lib.hid (hC.out.next HL.out)
            clear d1 f0 f1
            go_wp2_with fail
            go_roundw
            case rel => first | exact ⟨k, by omega, by go_num, HI2, HC1⟩ | ((repeat apply Exists.intro); rw [show decide ((i : Int) < L.length) = true from decide_eq_true (by omega)]; exact ⟨⟨k, by omega, by go_num, HI2, HC1⟩, rfl⟩)
            case measure => simp [intOf]
          · have hne : ∀ p, p + 1 = k + 1 → ¬ u.y < (lnAt (ordK L i) p).y := fun p e => by
              have e2 : p = k := by omega
              rw [e2, HE.out]
              exact hy
            have HIQ : Hid (insS u (ordK L i) = (ordK L i).take (k + 1) ++ u :: (ordK L i).drop (k + 1)) := Lib.hid (insAt_end hI.out (ord_y HG.out hiL) hne)
            clear hne
            have hd : decide (u.y < g'.y) = false := decide_eq_false hy
            go_wp2_with fail
            have lc0 := lcell (d1)
            have lc1 := lcell (f1)
            refine region_later (W := wq) (by kernel_rfl) (by kernel_rfl) (Below.refl _ _) ?_
            repeat (go_big_quiet_step ((fail)))
            refine wpQuiet_nil ?_
            intro W1 hW1
            have HL : Hid (Below wq.heap.size wq W1) := by obtain ⟨x, rfl⟩ := hW1; exact Lib.hid x.below
            clear hW1 lc0 lc1
            clear f0 f1
            have HC1 := Lib.hid (hC.out.next HL.out)
            obtain ⟨P1, P2⟩ := part_own HC1.out.1 HLN.out (k := (k + 1)) hki
            have HPA0 := Lib.hid P1
            have HPB0 := Lib.hid P2
            clear P1 P2
            go_wp2_with fail
            have lc0 := lcell c0
            have lc1 := lcell c1
            have lc2 := lcell c2
            have lc3 := lcell c3
            have lc4 := lcell c4
            refine region_readsL (W := w) 15 6 [1, 2, 3, 5, 6, 7, 8, 11, 12, 13] (by kernel_rfl) (by kernel_rfl) rfl HC1.out.2 (fun d _ _ _ _ h => by cases d <;> exact h) ?_
            simp only [picks, List.getElem?_cons_succ, List.getElem?_cons_zero]
            repeat (go_big_quiet_step (fail))
            refine wpQuiet_nil ?_
            clear lc0 lc1 lc2 lc3 lc4
            obtain ⟨WD, hWD⟩ : ∃ WD, WD = W1.drew := ⟨_, rfl⟩
            rw [← hWD]
            have hbd : Below W1.heap.size W1 WD := by rw [hWD]; exact (Below.refl _ _).drew
            have HCD := Lib.hid (HC1.out.next hbd)
            have HPA := Lib.hid (HPA0.out.next hbd)
            obtain ⟨O3, hO3⟩ : ∃ O3 : Addr, (if C = k + 1 then some (⟨g, 0, none⟩ : Addr) else some ⟨g, (k + 1) * 5, none⟩) = some O3 := by
              split
              · exact ⟨_, rfl⟩
              · exact ⟨_, rfl⟩
            rw [hO3]
            have HPB : Hid (Part9 WD O3 ((ordK L i).drop (k + 1))) := by
              split at hO3
              · rw [List.drop_eq_nil_of_le (by rw [HLN.out]; omega)]
                exact Lib.hid (part_none _ _)
              · obtain rfl := Option.some.inj hO3
                exact Lib.hid (HPB0.out.next hbd)
            clear hWD hbd HL hO3
            have HLT : Hid ((cellsSN ((ordK L i).take (k + 1))).length = (k + 1) * 5) := Lib.hid (by rw [cellsS_lenN, List.length_take, HLN.out] <;> omega)
            have HLD : Hid ((cellsSN ((ordK L i).drop (k + 1))).length = (i - (k + 1)) * 5) := Lib.hid (by rw [cellsS_lenN, List.length_drop, HLN.out] <;> omega)
            have HBWD := Lib.hid (Below.refl WD.heap.size WD)
            refine wpAnyN_two (i := 0) (i' := 9) (by kernel_rfl) ?_ ?_
            · refine wpOp_step rfl (fun K hK => ?_)
              rw [if_pos (by rfl)]
              have HBB := Lib.hid (HBWD.out.alloc HBWD.out.size (.cells #[] 34))
              have HCC := Lib.hid (col_start 34 5 HBWD.out)
              go_simp
              refine hK _ _ ⟨⟨⟨_, bthen HCD.out.2 HBB.out HCD.out.2.size⟩, rfl⟩, ?_⟩
              clear hK K
              obtain ⟨Y0, hX⟩ : ∃ V, V = WD.alloc (.cells #[] 34) := ⟨_, rfl⟩
              rw [← hX]
              rw [← hX] at HBB HCC
              clear hX
              have HBY0 := HBB
              clear HBB
              have HCY0 := HCC
              clear HCC
              refine wpAnyN_two (i := 4) (i' := 9) (by kernel_rfl) ?_ ?_
              · refine wpOp_step rfl (fun K hK => ?_)
                rw [if_pos (by rfl)]
                refine wp_append_own _ _ _ 28 rfl WD.heap.size 34 i0 (.agg #[.int .i64 0, .int .i64 0, .int .i64 0, .int .i64 0, .int .i64 0]) 5 40 Try.underlying28 HI.out.1 HI.out.2.1 HI.out.2.2.1 HI.out.2.2.2 rfl (by decide) _ _ _ rfl HCY0.out.1 ⟨g, 0, none⟩ (k + 1) C (cellsSN ((ordK L i).take (k + 1))) rfl (HLT.out) (HPA.out.next HCY0.out.2) (cells_oneN _) (by unfold maxLen; omega) (by omega) HCY0.out.2.size ?_
                intro v' Y1 hown hgrow _
                have HCY1 := Lib.hid (HCY0.out.grow hown hgrow)
                clear hown hgrow
                refine hK _ _ ⟨⟨⟨_, bthen HCD.out.2 HCY1.out.2 HCD.out.2.size⟩, rfl⟩, ?_⟩
                clear hK K
                refine wpAnyN_one (i := 9) (by kernel_rfl) ?_
                have HBY1 := Lib.hid HCY1.out.2
                refine wpOp_step rfl (fun K hK => ?_)
                rw [if_pos (by rfl)]
                have HBB := Lib.hid (HBY1.out.alloc HBY1.out.size (.cells #[.int .i64 u.id, .int .i64 u.y, .int .i64 u.fr, .int .i64 u.to, .int .i64 u.sw] 34))
                have HGG := Lib.hid (Has.new Y1 #[.int .i64 u.id, .int .i64 u.y, .int .i64 u.fr, .int .i64 u.to, .int .i64 u.sw] 34)
                have HCC := Lib.hid (HCY1.out.next (box1 (Below.refl _ _) (w := Y1) (cs := #[.int .i64 u.id, .int .i64 u.y, .int .i64 u.fr, .int .i64 u.to, .int .i64 u.sw]) (T := 34)).1)
                go_simp
                refine hK _ _ ⟨⟨⟨_, bthen HCD.out.2 HBB.out HCD.out.2.size⟩, rfl⟩, ?_⟩
                clear hK K
                obtain ⟨Y2, hX⟩ : ∃ V, V = Y1.alloc (.cells #[.int .i64 u.id, .int .i64 u.y, .int .i64 u.fr, .int .i64 u.to, .int .i64 u.sw] 34) := ⟨_, rfl⟩
                rw [← hX]
                rw [← hX] at HBB HGG HCC
                clear hX
                have HBY2 := HBB
                clear HBB
                have HGY2 := HGG
                clear HGG
                have HCY2 := HCC
                clear HCC
                refine wpAnyN_one (i := 10) (by kernel_rfl) ?_
                refine wpOp_step rfl (fun K hK => ?_)
                rw [if_pos (by rfl)]
                refine wp_append_own _ _ _ 28 rfl WD.heap.size 34 i0 (.agg #[.int .i64 0, .int .i64 0, .int .i64 0, .int .i64 0, .int .i64 0]) 5 40 Try.underlying28 HI.out.1 HI.out.2.1 HI.out.2.2.1 HI.out.2.2.2 rfl (by decide) _ _ _ rfl HCY2.out.1 ⟨Y1.heap.size, 0, none⟩ 1 1 ([.int .i64 u.id, .int .i64 u.y, .int .i64 u.fr, .int .i64 u.to, .int .i64 u.sw]) rfl (rfl) (part_box HGY2.out) (by simp [Value.oneCell']) (by unfold maxLen; omega) (by omega) HCY2.out.2.size ?_
                intro v' Y3 hown hgrow _
                have HCY3 := Lib.hid (HCY2.out.grow hown hgrow)
                clear hown hgrow
                refine hK _ _ ⟨⟨⟨_, bthen HCD.out.2 HCY3.out.2 HCD.out.2.size⟩, rfl⟩, ?_⟩
                clear hK K
                refine wpAnyN_one (i := 14) (by kernel_rfl) ?_
                refine wpOp_step rfl (fun K hK => ?_)
                rw [if_pos (by rfl)]
                refine wp_append_own _ _ _ 28 rfl WD.heap.size 34 i0 (.agg #[.int .i64 0, .int .i64 0, .int .i64 0, .int .i64 0, .int .i64 0]) 5 40 Try.underlying28 HI.out.1 HI.out.2.1 HI.out.2.2.1 HI.out.2.2.2 rfl (by decide) _ _ _ rfl HCY3.out.1 O3 (i - (k + 1)) (C - (k + 1)) (cellsSN ((ordK L i).drop (k + 1))) rfl (HLD.out) (HPB.out.next HCY3.out.2) (cells_oneN _) (by unfold maxLen; omega) (by omega) HCY3.out.2.size ?_
                intro v' Y4 hown hgrow _
                have HCY4 := Lib.hid (HCY3.out.grow hown hgrow)
                clear hown hgrow
                refine hK _ _ ⟨⟨⟨_, bthen HCD.out.2 HCY4.out.2 HCD.out.2.size⟩, rfl⟩, ?_⟩
                clear hK K
                have HF : Hid (Col w 34 5 v' (i + 1) (cellsSN (ordK L (i + 1))) Y4) := by
                  have h := HCY4.out.1
                  have e : 0 + (k + 1) + 1 + (i - (k + 1)) = i + 1 := by omega
                  rw [e] at h
                  have e2 : cellsSN (ordK L (i + 1)) = [] ++ cellsSN ((ordK L i).take (k + 1)) ++ [.int .i64 u.id, .int .i64 u.y, .int .i64 u.fr, .int .i64 u.to, .int .i64 u.sw] ++ cellsSN ((ordK L i).drop (k + 1)) := by
                    rw [show ordK L (i + 1) = insS (lnAt L i) (ordK L i) from rfl, HU.out, HIQ.out]
                    simp [cellsSN]
                  rw [← e2] at h
                  exact Lib.hid ⟨own_base h HCD.out.2.size, bthen HCD.out.2 HCY4.out.2 HCD.out.2.size⟩
                obtain ⟨g2, C2, hv2, hc2, hc3⟩ := own_caps HF.out.1
                subst hv2
                refine wpAnyN_end rfl (by kernel_rfl) rfl ?_
                simp only [List.drop_succ_cons, List.drop_zero]
                go_wp2_with fail
                go_roundw
                case rel => first | exact ⟨i + 1, g2, C2, by omega, hc2, hc3, rfl, by go_num, HF⟩ | ((repeat apply Exists.intro); exact ⟨⟨i + 1, g2, C2, by omega, hc2, hc3, rfl, by go_num, HF⟩, rfl⟩)
                case measure => simp [intOf]; omega
              · refine wpOp_step rfl (fun K hK => ?_)
                rw [if_pos (by rfl)]
                have HBB := Lib.hid (HBY0.out.alloc HBY0.out.size (.cells #[.int .i64 u.id, .int .i64 u.y, .int .i64 u.fr, .int .i64 u.to, .int .i64 u.sw] 34))
                have HGG := Lib.hid (Has.new Y0 #[.int .i64 u.id, .int .i64 u.y, .int .i64 u.fr, .int .i64 u.to, .int .i64 u.sw] 34)
                have HCC := Lib.hid (HCY0.out.next (box1 (Below.refl _ _) (w := Y0) (cs := #[.int .i64 u.id, .int .i64 u.y, .int .i64 u.fr, .int .i64 u.to, .int .i64 u.sw]) (T := 34)).1)
                go_simp
                refine hK _ _ ⟨⟨⟨_, bthen HCD.out.2 HBB.out HCD.out.2.size⟩, rfl⟩, ?_⟩
                clear hK K
                obtain ⟨Y1, hX⟩ : ∃ V, V = Y0.alloc (.cells #[.int .i64 u.id, .int .i64 u.y, .int .i64 u.fr, .int .i64 u.to, .int .i64 u.sw] 34) := ⟨_, rfl⟩
                rw [← hX]
                rw [← hX] at HBB HGG HCC
                clear hX
                have HBY1 := HBB
                clear HBB
                have HGY1 := HGG
                clear HGG
                have HCY1 := HCC
                clear HCC
                refine wpAnyN_one (i := 4) (by kernel_rfl) ?_
                refine wpOp_step rfl (fun K hK => ?_)
                rw [if_pos (by rfl)]
                refine wp_append_own _ _ _ 28 rfl WD.heap.size 34 i0 (.agg #[.int .i64 0, .int .i64 0, .int .i64 0, .int .i64 0, .int .i64 0]) 5 40 Try.underlying28 HI.out.1 HI.out.2.1 HI.out.2.2.1 HI.out.2.2.2 rfl (by decide) _ _ _ rfl HCY1.out.1 ⟨g, 0, none⟩ (k + 1) C (cellsSN ((ordK L i).take (k + 1))) rfl (HLT.out) (HPA.out.next HCY1.out.2) (cells_oneN _) (by unfold maxLen; omega) (by omega) HCY1.out.2.size ?_
                intro v' Y2 hown hgrow _
                have HCY2 := Lib.hid (HCY1.out.grow hown hgrow)
                have HGY2 := Lib.hid (has_grown HGY1.out hgrow (row_apart HCY0.out.1))
                clear hown hgrow
                refine hK _ _ ⟨⟨⟨_, bthen HCD.out.2 HCY2.out.2 HCD.out.2.size⟩, rfl⟩, ?_⟩
                clear hK K
                refine wpAnyN_one (i := 10) (by kernel_rfl) ?_
                refine wpOp_step rfl (fun K hK => ?_)
                rw [if_pos (by rfl)]
                refine wp_append_own _ _ _ 28 rfl WD.heap.size 34 i0 (.agg #[.int .i64 0, .int .i64 0, .int .i64 0, .int .i64 0, .int .i64 0]) 5 40 Try.underlying28 HI.out.1 HI.out.2.1 HI.out.2.2.1 HI.out.2.2.2 rfl (by decide) _ _ _ rfl HCY2.out.1 ⟨Y0.heap.size, 0, none⟩ 1 1 ([.int .i64 u.id, .int .i64 u.y, .int .i64 u.fr, .int .i64 u.to, .int .i64 u.sw]) rfl (rfl) (part_box HGY2.out) (by simp [Value.oneCell']) (by unfold maxLen; omega) (by omega) HCY2.out.2.size ?_
                intro v' Y3 hown hgrow _
                have HCY3 := Lib.hid (HCY2.out.grow hown hgrow)
                clear hown hgrow
                refine hK _ _ ⟨⟨⟨_, bthen HCD.out.2 HCY3.out.2 HCD.out.2.size⟩, rfl⟩, ?_⟩
                clear hK K
                refine wpAnyN_one (i := 14) (by kernel_rfl) ?_
                refine wpOp_step rfl (fun K hK => ?_)
                rw [if_pos (by rfl)]
                refine wp_append_own _ _ _ 28 rfl WD.heap.size 34 i0 (.agg #[.int .i64 0, .int .i64 0, .int .i64 0, .int .i64 0, .int .i64 0]) 5 40 Try.underlying28 HI.out.1 HI.out.2.1 HI.out.2.2.1 HI.out.2.2.2 rfl (by decide) _ _ _ rfl HCY3.out.1 O3 (i - (k + 1)) (C - (k + 1)) (cellsSN ((ordK L i).drop (k + 1))) rfl (HLD.out) (HPB.out.next HCY3.out.2) (cells_oneN _) (by unfold maxLen; omega) (by omega) HCY3.out.2.size ?_
                intro v' Y4 hown hgrow _
                have HCY4 := Lib.hid (HCY3.out.grow hown hgrow)
                clear hown hgrow
                refine hK _ _ ⟨⟨⟨_, bthen HCD.out.2 HCY4.out.2 HCD.out.2.size⟩, rfl⟩, ?_⟩
                clear hK K
                have HF : Hid (Col w 34 5 v' (i + 1) (cellsSN (ordK L (i + 1))) Y4) := by
                  have h := HCY4.out.1
                  have e : 0 + (k + 1) + 1 + (i - (k + 1)) = i + 1 := by omega
                  rw [e] at h
                  have e2 : cellsSN (ordK L (i + 1)) = [] ++ cellsSN ((ordK L i).take (k + 1)) ++ [.int .i64 u.id, .int .i64 u.y, .int .i64 u.fr, .int .i64 u.to, .int .i64 u.sw] ++ cellsSN ((ordK L i).drop (k + 1)) := by
                    rw [show ordK L (i + 1) = insS (lnAt L i) (ordK L i) from rfl, HU.out, HIQ.out]
                    simp [cellsSN]
                  rw [← e2] at h
                  exact Lib.hid ⟨own_base h HCD.out.2.size, bthen HCD.out.2 HCY4.out.2 HCD.out.2.size⟩
                obtain ⟨g2, C2, hv2, hc2, hc3⟩ := own_caps HF.out.1
                subst hv2
                refine wpAnyN_end rfl (by kernel_rfl) rfl ?_
                simp only [List.drop_succ_cons, List.drop_zero]
                go_wp2_with fail
                go_roundw
                case rel => first | exact ⟨i + 1, g2, C2, by omega, hc2, hc3, rfl, by go_num, HF⟩ | ((repeat apply Exists.intro); exact ⟨⟨i + 1, g2, C2, by omega, hc2, hc3, rfl, by go_num, HF⟩, rfl⟩)
                case measure => simp [intOf]; omega
            · refine wpOp_step rfl (fun K hK => ?_)
              rw [if_pos (by rfl)]
              have HBB := Lib.hid (HBWD.out.alloc HBWD.out.size (.cells #[.int .i64 u.id, .int .i64 u.y, .int .i64 u.fr, .int .i64 u.to, .int .i64 u.sw] 34))
              have HGG := Lib.hid (Has.new WD #[.int .i64 u.id, .int .i64 u.y, .int .i64 u.fr, .int .i64 u.to, .int .i64 u.sw] 34)
              have HZZ : Hid ((WD.alloc (.cells #[.int .i64 u.id, .int .i64 u.y, .int .i64 u.fr, .int .i64 u.to, .int .i64 u.sw] 34)).heap.size = WD.heap.size + 1) := Lib.hid (World.size_alloc _ _)
              go_simp
              refine hK _ _ ⟨⟨⟨_, bthen HCD.out.2 HBB.out HCD.out.2.size⟩, rfl⟩, ?_⟩
              clear hK K
              obtain ⟨Y0, hX⟩ : ∃ V, V = WD.alloc (.cells #[.int .i64 u.id, .int .i64 u.y, .int .i64 u.fr, .int .i64 u.to, .int .i64 u.sw] 34) := ⟨_, rfl⟩
              rw [← hX]
              rw [← hX] at HBB HGG HZZ
              clear hX
              have HBY0 := HBB
              clear HBB
              have HGY0 := HGG
              clear HGG
              have HZY : Hid (Y0.heap.size = WD.heap.size + 1) := HZZ
              refine wpAnyN_one (i := 0) (by kernel_rfl) ?_
              refine wpOp_step rfl (fun K hK => ?_)
              rw [if_pos (by rfl)]
              have HBB := Lib.hid (HBY0.out.alloc HBY0.out.size (.cells #[] 34))
              have HCC := Lib.hid (col_start 34 5 HBY0.out)
              have HGG := Lib.hid (HGY0.out.next (box1 (Below.refl _ _) (w := Y0) (cs := #[]) (T := 34)).1)
              go_simp
              refine hK _ _ ⟨⟨⟨_, bthen HCD.out.2 HBB.out HCD.out.2.size⟩, rfl⟩, ?_⟩
              clear hK K
              obtain ⟨Y1, hX⟩ : ∃ V, V = Y0.alloc (.cells #[] 34) := ⟨_, rfl⟩
              rw [← hX]
              rw [← hX] at HBB HCC HGG
              clear hX
              have HBY1 := HBB
              clear HBB
              have HCY1 := HCC
              clear HCC
              have HGY1 := HGG
              clear HGG
              refine wpAnyN_one (i := 4) (by kernel_rfl) ?_
              refine wpOp_step rfl (fun K hK => ?_)
              rw [if_pos (by rfl)]
              refine wp_append_own _ _ _ 28 rfl WD.heap.size 34 i0 (.agg #[.int .i64 0, .int .i64 0, .int .i64 0, .int .i64 0, .int .i64 0]) 5 40 Try.underlying28 HI.out.1 HI.out.2.1 HI.out.2.2.1 HI.out.2.2.2 rfl (by decide) _ _ _ rfl HCY1.out.1 ⟨g, 0, none⟩ (k + 1) C (cellsSN ((ordK L i).take (k + 1))) rfl (HLT.out) (HPA.out.next HCY1.out.2) (cells_oneN _) (by unfold maxLen; omega) (by omega) HCY1.out.2.size ?_
              intro v' Y2 hown hgrow _
              have HCY2 := Lib.hid (HCY1.out.grow hown hgrow)
              have HGY2 := Lib.hid (has_grown HGY1.out hgrow (fun e => by have e2 : WD.heap.size = Y0.heap.size := Option.some.inj e; have := HZY.out; omega))
              clear hown hgrow
              refine hK _ _ ⟨⟨⟨_, bthen HCD.out.2 HCY2.out.2 HCD.out.2.size⟩, rfl⟩, ?_⟩
              clear hK K
              refine wpAnyN_one (i := 10) (by kernel_rfl) ?_
              refine wpOp_step rfl (fun K hK => ?_)
              rw [if_pos (by rfl)]
              refine wp_append_own _ _ _ 28 rfl WD.heap.size 34 i0 (.agg #[.int .i64 0, .int .i64 0, .int .i64 0, .int .i64 0, .int .i64 0]) 5 40 Try.underlying28 HI.out.1 HI.out.2.1 HI.out.2.2.1 HI.out.2.2.2 rfl (by decide) _ _ _ rfl HCY2.out.1 ⟨WD.heap.size, 0, none⟩ 1 1 ([.int .i64 u.id, .int .i64 u.y, .int .i64 u.fr, .int .i64 u.to, .int .i64 u.sw]) rfl (rfl) (part_box HGY2.out) (by simp [Value.oneCell']) (by unfold maxLen; omega) (by omega) HCY2.out.2.size ?_
              intro v' Y3 hown hgrow _
              have HCY3 := Lib.hid (HCY2.out.grow hown hgrow)
              clear hown hgrow
              refine hK _ _ ⟨⟨⟨_, bthen HCD.out.2 HCY3.out.2 HCD.out.2.size⟩, rfl⟩, ?_⟩
              clear hK K
              refine wpAnyN_one (i := 14) (by kernel_rfl) ?_
              refine wpOp_step rfl (fun K hK => ?_)
              rw [if_pos (by rfl)]
              refine wp_append_own _ _ _ 28 rfl WD.heap.size 34 i0 (.agg #[.int .i64 0, .int .i64 0, .int .i64 0, .int .i64 0, .int .i64 0]) 5 40 Try.underlying28 HI.out.1 HI.out.2.1 HI.out.2.2.1 HI.out.2.2.2 rfl (by decide) _ _ _ rfl HCY3.out.1 O3 (i - (k + 1)) (C - (k + 1)) (cellsSN ((ordK L i).drop (k + 1))) rfl (HLD.out) (HPB.out.next HCY3.out.2) (cells_oneN _) (by unfold maxLen; omega) (by omega) HCY3.out.2.size ?_
              intro v' Y4 hown hgrow _
              have HCY4 := Lib.hid (HCY3.out.grow hown hgrow)
              clear hown hgrow
              refine hK _ _ ⟨⟨⟨_, bthen HCD.out.2 HCY4.out.2 HCD.out.2.size⟩, rfl⟩, ?_⟩
              clear hK K
              have HF : Hid (Col w 34 5 v' (i + 1) (cellsSN (ordK L (i + 1))) Y4) := by
                have h := HCY4.out.1
                have e : 0 + (k + 1) + 1 + (i - (k + 1)) = i + 1 := by omega
                rw [e] at h
                have e2 : cellsSN (ordK L (i + 1)) = [] ++ cellsSN ((ordK L i).take (k + 1)) ++ [.int .i64 u.id, .int .i64 u.y, .int .i64 u.fr, .int .i64 u.to, .int .i64 u.sw] ++ cellsSN ((ordK L i).drop (k + 1)) := by
                  rw [show ordK L (i + 1) = insS (lnAt L i) (ordK L i) from rfl, HU.out, HIQ.out]
                  simp [cellsSN]
                rw [← e2] at h
                exact Lib.hid ⟨own_base h HCD.out.2.size, bthen HCD.out.2 HCY4.out.2 HCD.out.2.size⟩
              obtain ⟨g2, C2, hv2, hc2, hc3⟩ := own_caps HF.out.1
              subst hv2
              refine wpAnyN_end rfl (by kernel_rfl) rfl ?_
              simp only [List.drop_succ_cons, List.drop_zero]
              go_wp2_with fail
              go_roundw
              case rel => first | exact ⟨i + 1, g2, C2, by omega, hc2, hc3, rfl, by go_num, HF⟩ | ((repeat apply Exists.intro); exact ⟨⟨i + 1, g2, C2, by omega, hc2, hc3, rfl, by go_num, HF⟩, rfl⟩)
              case measure => simp [intOf]; omega
    · obtain rfl : i = L.length := by omega
      have HP : Hid (SortedPost L w (.returned (.slice (some ⟨g, 0, none⟩) L.length C)) wr) := by
        obtain ⟨A9, c9, hv9, ho9, hb9⟩ := ownS_of_colN hR.out (ordS_len L)
        injection hv9 with e1 e2 e3
        subst e1
        exact Lib.hid ⟨_, C, rfl, ho9, hb9⟩
      go_wp2_with fail
      go_ret
      exact HP.out
end Go.Proofs.Ytdmnkmdlochogab
