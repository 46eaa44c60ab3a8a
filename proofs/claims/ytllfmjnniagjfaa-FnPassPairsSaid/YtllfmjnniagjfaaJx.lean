/-
  A pass put in its place, the law's model: contract of spec.PutPass over this translation. Conditions: stated at each theorem.
-/
import Derived.Test.YtllfmjnniagjfaaJu
import Derived.Test.YtllfmjnniagjfaaJr
namespace Go.Proofs.Ytllfmjnniagjfaa
open Go.RowKit
set_option linter.unusedVariables false

def Part6 (w : World) (a : Addr) (l : List PS) : Prop := ∀ (j : Nat) (u : Value), (cellsSJ l)[j]? = some u → w.cell? (a.add j) = some u
theorem Part6.next {w w' : World} {a : Addr} {l : List PS} (h : Part6 w a l) (hb : Below w.heap.size w w') : Part6 w' a l := fun j u hu => cell_next hb (h j u hu)
theorem part_none6 (w : World) (a : Addr) : Part6 w a [] := fun j u hu => by cases hu
theorem at5_cell6 {w : World} {b o : Nat} {v : PS} (h : At5J w b o v) : ∀ (i : Nat) (u : Value), ([.int .i64 v.ln, .int .i64 v.bg, .int .i64 v.en, .int .i64 v.pi, .int .i64 v.bd, .int .i64 v.co] : List Value)[i]? = some u → w.cell? ⟨b, o + i, none⟩ = some u := by
  obtain ⟨h0, h1, h2, h3, h4, h5⟩ := h
  intro i u hu
  rcases i with _ | _ | _ | _ | _ | _ | i <;> simp at hu <;> subst hu <;> assumption
theorem cell_row6 {w : World} {B b o n : Nat} {L : List PS} (h : SdsJ w B (some ⟨b, o, none⟩) n L) {j : Nat} {u : Value} (hu : (cellsSJ L)[j]? = some u) : w.cell? ⟨b, o + j, none⟩ = some u := by
  have hj := (List.getElem?_eq_some_iff.1 hu).1
  rw [cellsS_lenJ, h.1] at hj
  obtain ⟨b', o', v, hA, _, hv, ha⟩ := h.2 (j / 6) (by omega)
  obtain ⟨rfl, rfl⟩ : b = b' ∧ o = o' := by injection hA with h; injection h with h h'; exact ⟨h, h'⟩
  have e : j = j / 6 * 6 + j % 6 := by omega
  rw [e, cellsS_atJ L _ _ v hv (by omega)] at hu
  have := at5_cell6 ha _ _ hu
  rwa [show o + j / 6 * 6 + j % 6 = o + j by omega] at this
theorem cellsS_split6 (L : List PS) (k : Nat) : cellsSJ L = cellsSJ (L.take k) ++ cellsSJ (L.drop k) := by
  unfold cellsSJ
  rw [← List.flatMap_append, List.take_append_drop]
theorem part_row6 {w : World} {B b o n : Nat} {L : List PS} (h : SdsJ w B (some ⟨b, o, none⟩) n L) {k : Nat} (hk : k ≤ n) : Part6 w ⟨b, o, none⟩ (L.take k) ∧ Part6 w ⟨b, o + k * 6, none⟩ (L.drop k) := by
  have hlt := cellsS_lenJ (L.take k)
  rw [List.length_take, h.1] at hlt
  refine ⟨fun j u hu => ?_, fun j u hu => ?_⟩
  · have hj := (List.getElem?_eq_some_iff.1 hu).1
    rw [add_none]
    refine cell_row6 h ?_
    rw [cellsS_split6 L k, List.getElem?_append_left hj]
    exact hu
  · rw [add_none]
    have : (cellsSJ L)[k * 6 + j]? = some u := by
      rw [cellsS_split6 L k, List.getElem?_append_right (by omega), show k * 6 + j - (cellsSJ (L.take k)).length = j by omega]
      exact hu
    have := cell_row6 h this
    rwa [show o + (k * 6 + j) = o + k * 6 + j by omega] at this
theorem cells_one6 (L : List PS) : ∀ u ∈ cellsSJ L, u.oneCell' = true := by
  intro u hu
  simp only [cellsSJ, List.mem_flatMap, List.mem_cons, List.not_mem_nil, or_false] at hu
  obtain ⟨p, _, rfl | rfl | rfl | rfl | rfl | rfl⟩ := hu <;> rfl
theorem part_box6 {w : World} {g : Nat} {u : PS} (h : Has w g [.int .i64 u.ln, .int .i64 u.bg, .int .i64 u.en, .int .i64 u.pi, .int .i64 u.bd, .int .i64 u.co]) : ∀ (j : Nat) (x : Value), ([.int .i64 u.ln, .int .i64 u.bg, .int .i64 u.en, .int .i64 u.pi, .int .i64 u.bd, .int .i64 u.co] : List Value)[j]? = some x → w.cell? ((⟨g, 0, none⟩ : Addr).add j) = some x := fun j x hx => by
  rw [add_none, Nat.zero_add]; exact h.at_ j x hx
def ppG (L : List PS) (p : PS) : Bool := pssB L && pssB (ppL L p)
def ppR (L : List PS) (p : PS) : List PS := if ppG L p then ppL L p else []
def PpPost (L : List PS) (p : PS) (w : World) (e : Ending) (w' : World) : Prop :=
  ∃ A c, e = .returned (.tuple #[.slice A (ppR L p).length c, .bool (ppG L p)]) ∧ OwnSJ w' w.heap.size w'.heap.size A (ppR L p).length (ppR L p) ∧ Below w.heap.size w w'
theorem pp_no {L : List PS} {p : PS} {w w1 : World} {A : Option Addr} {c : Nat} {ob : Obj} (h : ppG L p = false) (hb : Below w.heap.size w w1) : PpPost L p w (.returned (.tuple #[.slice A 0 c, .bool false])) (w1.alloc ob) := by
  unfold PpPost ppR
  rw [h]
  exact ⟨A, c, rfl, ⟨rfl, .inl rfl⟩, hb.alloc hb.size _⟩
theorem pp_yes {L : List PS} {p : PS} {w w1 : World} {A : Option Addr} {n c : Nat} (h : ppG L p = true) (hn : n = (ppL L p).length) (ho : OwnSJ w1 w.heap.size w1.heap.size A n (ppL L p)) (hb : Below w.heap.size w w1) : PpPost L p w (.returned (.tuple #[.slice A n c, .bool true])) w1 := by
  unfold PpPost ppR
  rw [h, if_pos rfl]
  subst hn
  exact ⟨A, c, rfl, ho, hb⟩
theorem pp_1 {L : List PS} {p : PS} (h : pssB L = false) : ppG L p = false := by unfold ppG; rw [h]; rfl
theorem pp_2 {L : List PS} {p : PS} (h : pssB (ppL L p) = false) : ppG L p = false := by unfold ppG; rw [h, Bool.and_false]
theorem pp_3 {L : List PS} {p : PS} (h : pssB L = true) (h2 : pssB (ppL L p) = true) : ppG L p = true := by unfold ppG; rw [h, h2]; rfl
set_option maxRecDepth 20000 in
set_option maxHeartbeats 6400000 in
theorem put_spec (b o n c : Nat) (L : List PS) (p : PS) (w : World) (hs : SdsJ w w.heap.size (some ⟨b, o, none⟩) n L) (hm : n ≤ maxLen) (hcap : n ≤ c) (hc : c ≤ maxLen) :
    Calls Try.prog 40 #[.slice (some ⟨b, o, none⟩) n c, .agg #[.int .i64 p.ln, .int .i64 p.bg, .int .i64 p.en, .int .i64 p.pi, .int .i64 p.bd, .int .i64 p.co]] w (PpPost L p w) := by
  obtain rfl := hs.1
  have HS := Lib.hid hs
  obtain ⟨WB, hWB⟩ : ∃ WB, WB = w.alloc (.cells #[.int .i64 p.ln, .int .i64 p.bg, .int .i64 p.en, .int .i64 p.pi, .int .i64 p.bd, .int .i64 p.co] 40) := ⟨_, rfl⟩
  have HW : Hid (Below w.heap.size w WB ∧ Has WB w.heap.size [.int .i64 p.ln, .int .i64 p.bg, .int .i64 p.en, .int .i64 p.pi, .int .i64 p.bd, .int .i64 p.co]) := by rw [hWB]; exact box1 (Below.refl _ _)
  have HBW : Hid (w.heap.size < WB.heap.size) := by rw [hWB]; exact Lib.hid (by simp)
  have HS0 := Lib.hid (sds_atJ hs HW.out.1)
  have HE0 := Lib.hid hWB
  clear hs hWB
  rcases h1 : pssB L with _ | _
  · have H1 := Lib.hid h1
    clear h1
    go_enter Try.func40, Try.ntmps40
    go_wp2_with fail
    rw [← HE0.out]
    refine (pgood_spec_v _ _ _ L _ H1.out _ HS0.out hm).mono ?_
    rintro e w1 ⟨rfl, hb⟩
    have HB1 := Lib.hid (bthen HW.out.1 hb HW.out.1.size)
    clear hb
    go_wp2_with fail
    go_ret2
    exact pp_no (pp_1 H1.out) HB1.out
  have H1 := Lib.hid h1
  have h12 := (good11_of h1).max
  obtain ⟨i0, hi, hz0, hz1, hz2⟩ := info_parts infoSoundJ
  have HI := Lib.hid (And.intro hi (And.intro hz0 (And.intro hz1 hz2)))
  obtain ⟨r, hr⟩ : ∃ r, pssB (ppL L p) = r := ⟨_, rfl⟩
  have HR := Lib.hid hr
  have HPL := Lib.hid (ppL_len L p)
  clear h1 hr hi hz0 hz1 hz2
  go_enter Try.func40, Try.ntmps40
  go_wp2_with fail
  rw [← HE0.out]
  refine (pgood_spec_v _ _ _ L _ H1.out _ HS0.out hm).mono ?_
  rintro e w1 ⟨rfl, hb⟩
  have HB1 := Lib.hid hb
  clear hb
  go_wp2_with fail
  go_loopw [6] (fun i wr => ∃ k : Nat, k ≤ L.length ∧ i = .int .i64 k ∧ Hid (∀ j, j < k → (psAt L j).bg < p.bg) ∧ Hid (Below WB.heap.size WB wr)) (fun i _ => L.length - (intOf i).toNat)
  case atStart => exact ⟨0, Nat.zero_le _, rfl, Lib.hid fun j h => absurd h (by omega), HB1⟩
  case round =>
    obtain ⟨k, hk, rfl, hA, hB⟩ := hrel
    have HBW0 := Lib.hid (bthen HW.out.1 hB.out HW.out.1.size)
    obtain ⟨W0, rfl⟩ : ∃ W : World, W = wr := ⟨_, rfl⟩
    have a0 := cell_next hB.out (HW.out.2.at_ 0 _ rfl)
    have a1 := cell_next hB.out (HW.out.2.at_ 1 _ rfl)
    have a2 := cell_next hB.out (HW.out.2.at_ 2 _ rfl)
    have a3 := cell_next hB.out (HW.out.2.at_ 3 _ rfl)
    have a4 := cell_next hB.out (HW.out.2.at_ 4 _ rfl)
    have a5 := cell_next hB.out (HW.out.2.at_ 5 _ rfl)
    by_cases hlt : k < L.length
    · obtain ⟨b', o', u, hA', hbl, hL, c0, c1, c2, c3, c4, c5⟩ := (sds_atJ HS.out HBW0.out).2 k hlt
      obtain ⟨rfl, rfl⟩ : b = b' ∧ o = o' := by injection hA' with h; injection h with h h'; exact ⟨h, h'⟩
      have HU := Lib.hid (psAt_at hL)
      clear hA' hL c0 c2 c3 c4 c5
      by_cases he : u.bg < p.bg
      · have hd : decide (u.bg < p.bg) = true := decide_eq_true he
        have HA2 : Hid (∀ j, j < k + 1 → (psAt L j).bg < p.bg) := Lib.hid fun j hj => by
          rcases Nat.lt_or_ge j k with a | a
          · exact hA.out j a
          · obtain rfl : j = k := by omega
            rw [HU.out]
            exact he
        go_wp2_with fail
        have lc0 := lcell (c1)
        have lc1 := lcell (a1)
        refine region_later (W := W0) (by kernel_rfl) (by kernel_rfl) (Below.refl _ _) ?_
        repeat (go_big_quiet_step ((fail)))
        refine wpQuiet_nil ?_
        intro W1 hW1
        have HL : Hid (Below W0.heap.size W0 W1) := by obtain ⟨x, rfl⟩ := hW1; exact Lib.hid x.below
        clear hW1 lc0 lc1
        have HB2 := Lib.hid (bthen hB.out HL.out hB.out.size)
        clear a0 a1 a2 a3 a4 a5 c1
        go_wp2_with fail
        go_roundw
        case rel => exact ⟨k + 1, by omega, by go_num, HA2, HB2⟩
        case measure => simp [intOf]; omega
      · have hd : decide (u.bg < p.bg) = false := decide_eq_false he
        have HPK := Lib.hid (ppK_is (L := L) (b := p.bg) hk hA.out (fun _ => by rw [HU.out]; omega))
        go_wp2_with fail
        have lc0 := lcell (c1)
        have lc1 := lcell (a1)
        refine region_later (W := W0) (by kernel_rfl) (by kernel_rfl) (Below.refl _ _) ?_
        repeat (go_big_quiet_step ((fail)))
        refine wpQuiet_nil ?_
        intro W1 hW1
        have HL : Hid (Below W0.heap.size W0 W1) := by obtain ⟨x, rfl⟩ := hW1; exact Lib.hid x.below
        clear hW1 lc0 lc1
        clear c1
        have b0 := cell_next HL.out a0
        have b1 := cell_next HL.out a1
        have b2 := cell_next HL.out a2
        have b3 := cell_next HL.out a3
        have b4 := cell_next HL.out a4
        have b5 := cell_next HL.out a5
        have HB2 := Lib.hid (bthen HBW0.out HL.out HBW0.out.size)
        clear a0 a1 a2 a3 a4 a5
        go_wp2_with fail
        have lc0 := lcell b0
        have lc1 := lcell b1
        have lc2 := lcell b2
        have lc3 := lcell b3
        have lc4 := lcell b4
        have lc5 := lcell b5
        refine region_readsL (W := W1) 12 6 [1, 2, 3, 5, 8, 9, 10] (by kernel_rfl) (by kernel_rfl) rfl (Below.refl _ _) (fun d _ _ _ _ h => by cases d <;> exact h) ?_
        simp only [picks, List.getElem?_cons_succ, List.getElem?_cons_zero]
        repeat (go_big_quiet_step (fail))
        refine wpQuiet_nil ?_
        clear lc0 lc1 lc2 lc3 lc4 lc5 b0 b1 b2 b3 b4 b5
        obtain ⟨WD, hWD⟩ : ∃ WD, WD = W1.drew := ⟨_, rfl⟩
        rw [← hWD]
        have hbd : Below W1.heap.size W1 WD := by rw [hWD]; exact (Below.refl _ _).drew
        have HBD := Lib.hid (bthen HB2.out hbd HB2.out.size)
        have HBE := Lib.hid hbd
        obtain ⟨P1, P2⟩ := part_row6 (sds_atJ HS.out HBD.out) (k := k) (by omega)
        have HPA := Lib.hid P1
        have HPB0 := Lib.hid P2
        clear P1 P2 hWD hbd
        have HPB := Lib.hid HPB0.out
        have HLT : Hid ((cellsSJ (L.take k)).length = k * 6) := Lib.hid (by rw [cellsS_lenJ, List.length_take] <;> omega)
        have HLD : Hid ((cellsSJ (L.drop k)).length = (L.length - k) * 6) := Lib.hid (by rw [cellsS_lenJ, List.length_drop] <;> omega)
        have HBWD := Lib.hid (Below.refl WD.heap.size WD)
        refine wpAnyN_two (i := 0) (i' := 6) (by kernel_rfl) ?_ ?_
        · refine wpOp_step rfl (fun K hK => ?_)
          rw [if_pos (by rfl)]
          have HBB := Lib.hid (HBWD.out.alloc HBWD.out.size (.cells #[] 40))
          have HCC := Lib.hid (col_start 40 6 HBWD.out)
          go_simp
          refine hK _ _ ⟨⟨⟨_, bthen HBE.out HBB.out HBE.out.size⟩, rfl⟩, ?_⟩
          clear hK K
          obtain ⟨Y0, hX⟩ : ∃ V, V = WD.alloc (.cells #[] 40) := ⟨_, rfl⟩
          rw [← hX]
          rw [← hX] at HBB HCC
          clear hX
          have HBY0 := HBB
          clear HBB
          have HCY0 := HCC
          clear HCC
          refine wpAnyN_two (i := 4) (i' := 6) (by kernel_rfl) ?_ ?_
          · refine wpOp_step rfl (fun K hK => ?_)
            rw [if_pos (by rfl)]
            refine wp_append_own _ _ _ 24 rfl WD.heap.size 40 i0 (.agg #[.int .i64 0, .int .i64 0, .int .i64 0, .int .i64 0, .int .i64 0, .int .i64 0]) 6 48 Try.underlying24 HI.out.1 HI.out.2.1 HI.out.2.2.1 HI.out.2.2.2 rfl (by decide) _ _ _ rfl HCY0.out.1 ⟨b, o, none⟩ (k) (c) (cellsSJ (L.take k)) rfl (HLT.out) (HPA.out.next HCY0.out.2) (cells_one6 _) (by unfold maxLen; omega) (by omega) HCY0.out.2.size ?_
            intro v' Y1 hown hgrow _
            have HCY1 := Lib.hid (HCY0.out.grow hown hgrow)
            clear hown hgrow
            refine hK _ _ ⟨⟨⟨_, bthen HBE.out HCY1.out.2 HBE.out.size⟩, rfl⟩, ?_⟩
            clear hK K
            refine wpAnyN_one (i := 6) (by kernel_rfl) ?_
            have HBY1 := Lib.hid HCY1.out.2
            refine wpOp_step rfl (fun K hK => ?_)
            rw [if_pos (by rfl)]
            have HBB := Lib.hid (HBY1.out.alloc HBY1.out.size (.cells #[.int .i64 p.ln, .int .i64 p.bg, .int .i64 p.en, .int .i64 p.pi, .int .i64 p.bd, .int .i64 p.co] 40))
            have HGG := Lib.hid (Has.new Y1 #[.int .i64 p.ln, .int .i64 p.bg, .int .i64 p.en, .int .i64 p.pi, .int .i64 p.bd, .int .i64 p.co] 40)
            have HCC := Lib.hid (HCY1.out.next (box1 (Below.refl _ _) (w := Y1) (cs := #[.int .i64 p.ln, .int .i64 p.bg, .int .i64 p.en, .int .i64 p.pi, .int .i64 p.bd, .int .i64 p.co]) (T := 40)).1)
            go_simp
            refine hK _ _ ⟨⟨⟨_, bthen HBE.out HBB.out HBE.out.size⟩, rfl⟩, ?_⟩
            clear hK K
            obtain ⟨Y2, hX⟩ : ∃ V, V = Y1.alloc (.cells #[.int .i64 p.ln, .int .i64 p.bg, .int .i64 p.en, .int .i64 p.pi, .int .i64 p.bd, .int .i64 p.co] 40) := ⟨_, rfl⟩
            rw [← hX]
            rw [← hX] at HBB HGG HCC
            clear hX
            have HBY2 := HBB
            clear HBB
            have HGY2 := HGG
            clear HGG
            have HCY2 := HCC
            clear HCC
            refine wpAnyN_one (i := 7) (by kernel_rfl) ?_
            refine wpOp_step rfl (fun K hK => ?_)
            rw [if_pos (by rfl)]
            refine wp_append_own _ _ _ 24 rfl WD.heap.size 40 i0 (.agg #[.int .i64 0, .int .i64 0, .int .i64 0, .int .i64 0, .int .i64 0, .int .i64 0]) 6 48 Try.underlying24 HI.out.1 HI.out.2.1 HI.out.2.2.1 HI.out.2.2.2 rfl (by decide) _ _ _ rfl HCY2.out.1 ⟨Y1.heap.size, 0, none⟩ (1) (1) ([.int .i64 p.ln, .int .i64 p.bg, .int .i64 p.en, .int .i64 p.pi, .int .i64 p.bd, .int .i64 p.co]) rfl (rfl) (part_box6 HGY2.out) (by simp [Value.oneCell']) (by unfold maxLen; omega) (by omega) HCY2.out.2.size ?_
            intro v' Y3 hown hgrow _
            have HCY3 := Lib.hid (HCY2.out.grow hown hgrow)
            clear hown hgrow
            refine hK _ _ ⟨⟨⟨_, bthen HBE.out HCY3.out.2 HBE.out.size⟩, rfl⟩, ?_⟩
            clear hK K
            refine wpAnyN_one (i := 11) (by kernel_rfl) ?_
            refine wpOp_step rfl (fun K hK => ?_)
            rw [if_pos (by rfl)]
            refine wp_append_own _ _ _ 24 rfl WD.heap.size 40 i0 (.agg #[.int .i64 0, .int .i64 0, .int .i64 0, .int .i64 0, .int .i64 0, .int .i64 0]) 6 48 Try.underlying24 HI.out.1 HI.out.2.1 HI.out.2.2.1 HI.out.2.2.2 rfl (by decide) _ _ _ rfl HCY3.out.1 ⟨b, o + k * 6, none⟩ ((L.length - k)) (c - k) (cellsSJ (L.drop k)) rfl (HLD.out) (HPB.out.next HCY3.out.2) (cells_one6 _) (by unfold maxLen; omega) (by omega) HCY3.out.2.size ?_
            intro v' Y4 hown hgrow _
            have HCY4 := Lib.hid (HCY3.out.grow hown hgrow)
            clear hown hgrow
            refine hK _ _ ⟨⟨⟨_, bthen HBE.out HCY4.out.2 HBE.out.size⟩, rfl⟩, ?_⟩
            clear hK K
            have HF : Hid (Col w 40 6 v' (L.length + 1) (cellsSJ (ppL L p)) Y4) := by
              have h := HCY4.out.1
              have e : 0 + k + 1 + (L.length - k) = L.length + 1 := by omega
              rw [e] at h
              have e2 : cellsSJ (ppL L p) = [] ++ cellsSJ (L.take k) ++ [.int .i64 p.ln, .int .i64 p.bg, .int .i64 p.en, .int .i64 p.pi, .int .i64 p.bd, .int .i64 p.co] ++ cellsSJ (L.drop k) := by
                unfold ppL
                rw [HPK.out]
                simp [cellsSJ]
              rw [← e2] at h
              exact Lib.hid ⟨own_base h HBD.out.size, bthen HBD.out HCY4.out.2 HBD.out.size⟩
            refine wpAnyN_end rfl (by kernel_rfl) rfl ?_
            simp only [List.drop_succ_cons, List.drop_zero]
            obtain ⟨A9, c9, hv9, ho9, hb9⟩ := ownS_of_colJ HF.out HPL.out
            subst hv9
            have HO9 := Lib.hid ho9
            clear ho9 hb9
            go_wp2_with fail
            refine (pgood_spec_v _ _ _ (ppL L p) r HR.out _ HO9.out.sds (by unfold maxLen; omega)).mono ?_
            rintro e w9 ⟨rfl, hb⟩
            have HB9 := Lib.hid (bthen HF.out.2 hb HF.out.2.size)
            have HO10 := Lib.hid ((HO9.out.on hb (Nat.le_refl _)).wide (Nat.le_refl _) hb.size)
            clear hb
            rcases r with _ | _
            · go_wp2_with fail
              go_ret2
              exact pp_no (pp_2 HR.out) HB9.out
            · go_wp2_with fail
              go_ret2
              exact pp_yes (pp_3 H1.out HR.out) HPL.out.symm HO10.out HB9.out
          · refine wpOp_step rfl (fun K hK => ?_)
            rw [if_pos (by rfl)]
            have HBB := Lib.hid (HBY0.out.alloc HBY0.out.size (.cells #[.int .i64 p.ln, .int .i64 p.bg, .int .i64 p.en, .int .i64 p.pi, .int .i64 p.bd, .int .i64 p.co] 40))
            have HGG := Lib.hid (Has.new Y0 #[.int .i64 p.ln, .int .i64 p.bg, .int .i64 p.en, .int .i64 p.pi, .int .i64 p.bd, .int .i64 p.co] 40)
            have HCC := Lib.hid (HCY0.out.next (box1 (Below.refl _ _) (w := Y0) (cs := #[.int .i64 p.ln, .int .i64 p.bg, .int .i64 p.en, .int .i64 p.pi, .int .i64 p.bd, .int .i64 p.co]) (T := 40)).1)
            go_simp
            refine hK _ _ ⟨⟨⟨_, bthen HBE.out HBB.out HBE.out.size⟩, rfl⟩, ?_⟩
            clear hK K
            obtain ⟨Y1, hX⟩ : ∃ V, V = Y0.alloc (.cells #[.int .i64 p.ln, .int .i64 p.bg, .int .i64 p.en, .int .i64 p.pi, .int .i64 p.bd, .int .i64 p.co] 40) := ⟨_, rfl⟩
            rw [← hX]
            rw [← hX] at HBB HGG HCC
            clear hX
            have HBY1 := HBB
            clear HBB
            have HGY1 := HGG
            clear HGG
            have HCY1 := HCC
            clear HCC
            refine wpAnyN_one (i := 4) (by kernel_rfl) ?_
            refine wpOp_step rfl (fun K hK => ?_)
            rw [if_pos (by rfl)]
            refine wp_append_own _ _ _ 24 rfl WD.heap.size 40 i0 (.agg #[.int .i64 0, .int .i64 0, .int .i64 0, .int .i64 0, .int .i64 0, .int .i64 0]) 6 48 Try.underlying24 HI.out.1 HI.out.2.1 HI.out.2.2.1 HI.out.2.2.2 rfl (by decide) _ _ _ rfl HCY1.out.1 ⟨b, o, none⟩ (k) (c) (cellsSJ (L.take k)) rfl (HLT.out) (HPA.out.next HCY1.out.2) (cells_one6 _) (by unfold maxLen; omega) (by omega) HCY1.out.2.size ?_
            intro v' Y2 hown hgrow _
            have HCY2 := Lib.hid (HCY1.out.grow hown hgrow)
            have HGY2 := Lib.hid (has_grown HGY1.out hgrow (row_apartJ HCY0.out.1))
            clear hown hgrow
            refine hK _ _ ⟨⟨⟨_, bthen HBE.out HCY2.out.2 HBE.out.size⟩, rfl⟩, ?_⟩
            clear hK K
            refine wpAnyN_one (i := 7) (by kernel_rfl) ?_
            refine wpOp_step rfl (fun K hK => ?_)
            rw [if_pos (by rfl)]
            refine wp_append_own _ _ _ 24 rfl WD.heap.size 40 i0 (.agg #[.int .i64 0, .int .i64 0, .int .i64 0, .int .i64 0, .int .i64 0, .int .i64 0]) 6 48 Try.underlying24 HI.out.1 HI.out.2.1 HI.out.2.2.1 HI.out.2.2.2 rfl (by decide) _ _ _ rfl HCY2.out.1 ⟨Y0.heap.size, 0, none⟩ (1) (1) ([.int .i64 p.ln, .int .i64 p.bg, .int .i64 p.en, .int .i64 p.pi, .int .i64 p.bd, .int .i64 p.co]) rfl (rfl) (part_box6 HGY2.out) (by simp [Value.oneCell']) (by unfold maxLen; omega) (by omega) HCY2.out.2.size ?_
            intro v' Y3 hown hgrow _
            have HCY3 := Lib.hid (HCY2.out.grow hown hgrow)
            clear hown hgrow
            refine hK _ _ ⟨⟨⟨_, bthen HBE.out HCY3.out.2 HBE.out.size⟩, rfl⟩, ?_⟩
            clear hK K
            refine wpAnyN_one (i := 11) (by kernel_rfl) ?_
            refine wpOp_step rfl (fun K hK => ?_)
            rw [if_pos (by rfl)]
            refine wp_append_own _ _ _ 24 rfl WD.heap.size 40 i0 (.agg #[.int .i64 0, .int .i64 0, .int .i64 0, .int .i64 0, .int .i64 0, .int .i64 0]) 6 48 Try.underlying24 HI.out.1 HI.out.2.1 HI.out.2.2.1 HI.out.2.2.2 rfl (by decide) _ _ _ rfl HCY3.out.1 ⟨b, o + k * 6, none⟩ ((L.length - k)) (c - k) (cellsSJ (L.drop k)) rfl (HLD.out) (HPB.out.next HCY3.out.2) (cells_one6 _) (by unfold maxLen; omega) (by omega) HCY3.out.2.size ?_
            intro v' Y4 hown hgrow _
            have HCY4 := Lib.hid (HCY3.out.grow hown hgrow)
            clear hown hgrow
            refine hK _ _ ⟨⟨⟨_, bthen HBE.out HCY4.out.2 HBE.out.size⟩, rfl⟩, ?_⟩
            clear hK K
            have HF : Hid (Col w 40 6 v' (L.length + 1) (cellsSJ (ppL L p)) Y4) := by
              have h := HCY4.out.1
              have e : 0 + k + 1 + (L.length - k) = L.length + 1 := by omega
              rw [e] at h
              have e2 : cellsSJ (ppL L p) = [] ++ cellsSJ (L.take k) ++ [.int .i64 p.ln, .int .i64 p.bg, .int .i64 p.en, .int .i64 p.pi, .int .i64 p.bd, .int .i64 p.co] ++ cellsSJ (L.drop k) := by
                unfold ppL
                rw [HPK.out]
                simp [cellsSJ]
              rw [← e2] at h
              exact Lib.hid ⟨own_base h HBD.out.size, bthen HBD.out HCY4.out.2 HBD.out.size⟩
            refine wpAnyN_end rfl (by kernel_rfl) rfl ?_
            simp only [List.drop_succ_cons, List.drop_zero]
            obtain ⟨A9, c9, hv9, ho9, hb9⟩ := ownS_of_colJ HF.out HPL.out
            subst hv9
            have HO9 := Lib.hid ho9
            clear ho9 hb9
            go_wp2_with fail
            refine (pgood_spec_v _ _ _ (ppL L p) r HR.out _ HO9.out.sds (by unfold maxLen; omega)).mono ?_
            rintro e w9 ⟨rfl, hb⟩
            have HB9 := Lib.hid (bthen HF.out.2 hb HF.out.2.size)
            have HO10 := Lib.hid ((HO9.out.on hb (Nat.le_refl _)).wide (Nat.le_refl _) hb.size)
            clear hb
            rcases r with _ | _
            · go_wp2_with fail
              go_ret2
              exact pp_no (pp_2 HR.out) HB9.out
            · go_wp2_with fail
              go_ret2
              exact pp_yes (pp_3 H1.out HR.out) HPL.out.symm HO10.out HB9.out
        · refine wpOp_step rfl (fun K hK => ?_)
          rw [if_pos (by rfl)]
          have HBB := Lib.hid (HBWD.out.alloc HBWD.out.size (.cells #[.int .i64 p.ln, .int .i64 p.bg, .int .i64 p.en, .int .i64 p.pi, .int .i64 p.bd, .int .i64 p.co] 40))
          have HGG := Lib.hid (Has.new WD #[.int .i64 p.ln, .int .i64 p.bg, .int .i64 p.en, .int .i64 p.pi, .int .i64 p.bd, .int .i64 p.co] 40)
          have HZZ : Hid ((WD.alloc (.cells #[.int .i64 p.ln, .int .i64 p.bg, .int .i64 p.en, .int .i64 p.pi, .int .i64 p.bd, .int .i64 p.co] 40)).heap.size = WD.heap.size + 1) := Lib.hid (World.size_alloc _ _)
          go_simp
          refine hK _ _ ⟨⟨⟨_, bthen HBE.out HBB.out HBE.out.size⟩, rfl⟩, ?_⟩
          clear hK K
          obtain ⟨Y0, hX⟩ : ∃ V, V = WD.alloc (.cells #[.int .i64 p.ln, .int .i64 p.bg, .int .i64 p.en, .int .i64 p.pi, .int .i64 p.bd, .int .i64 p.co] 40) := ⟨_, rfl⟩
          rw [← hX]
          rw [← hX] at HBB HGG HZZ
          clear hX
          have HBY0 := HBB
          clear HBB
          have HGY0 := HGG
          clear HGG
          have HZY : Hid (Y0.heap.size = WD.heap.size + 1) := HZZ
          refine wpAnyN_one (i := 0) (by kernel_rfl) ?_
          refine wpOp_step rfl (fun K hK => ?_)
          rw [if_pos (by rfl)]
          have HBB := Lib.hid (HBY0.out.alloc HBY0.out.size (.cells #[] 40))
          have HCC := Lib.hid (col_start 40 6 HBY0.out)
          have HGG := Lib.hid (HGY0.out.next (box1 (Below.refl _ _) (w := Y0) (cs := #[]) (T := 40)).1)
          go_simp
          refine hK _ _ ⟨⟨⟨_, bthen HBE.out HBB.out HBE.out.size⟩, rfl⟩, ?_⟩
          clear hK K
          obtain ⟨Y1, hX⟩ : ∃ V, V = Y0.alloc (.cells #[] 40) := ⟨_, rfl⟩
          rw [← hX]
          rw [← hX] at HBB HCC HGG
          clear hX
          have HBY1 := HBB
          clear HBB
          have HCY1 := HCC
          clear HCC
          have HGY1 := HGG
          clear HGG
          refine wpAnyN_one (i := 4) (by kernel_rfl) ?_
          refine wpOp_step rfl (fun K hK => ?_)
          rw [if_pos (by rfl)]
          refine wp_append_own _ _ _ 24 rfl WD.heap.size 40 i0 (.agg #[.int .i64 0, .int .i64 0, .int .i64 0, .int .i64 0, .int .i64 0, .int .i64 0]) 6 48 Try.underlying24 HI.out.1 HI.out.2.1 HI.out.2.2.1 HI.out.2.2.2 rfl (by decide) _ _ _ rfl HCY1.out.1 ⟨b, o, none⟩ (k) (c) (cellsSJ (L.take k)) rfl (HLT.out) (HPA.out.next HCY1.out.2) (cells_one6 _) (by unfold maxLen; omega) (by omega) HCY1.out.2.size ?_
          intro v' Y2 hown hgrow _
          have HCY2 := Lib.hid (HCY1.out.grow hown hgrow)
          have HGY2 := Lib.hid (has_grown HGY1.out hgrow (fun e => by have e2 : WD.heap.size = Y0.heap.size := Option.some.inj e; have := HZY.out; omega))
          clear hown hgrow
          refine hK _ _ ⟨⟨⟨_, bthen HBE.out HCY2.out.2 HBE.out.size⟩, rfl⟩, ?_⟩
          clear hK K
          refine wpAnyN_one (i := 7) (by kernel_rfl) ?_
          refine wpOp_step rfl (fun K hK => ?_)
          rw [if_pos (by rfl)]
          refine wp_append_own _ _ _ 24 rfl WD.heap.size 40 i0 (.agg #[.int .i64 0, .int .i64 0, .int .i64 0, .int .i64 0, .int .i64 0, .int .i64 0]) 6 48 Try.underlying24 HI.out.1 HI.out.2.1 HI.out.2.2.1 HI.out.2.2.2 rfl (by decide) _ _ _ rfl HCY2.out.1 ⟨WD.heap.size, 0, none⟩ (1) (1) ([.int .i64 p.ln, .int .i64 p.bg, .int .i64 p.en, .int .i64 p.pi, .int .i64 p.bd, .int .i64 p.co]) rfl (rfl) (part_box6 HGY2.out) (by simp [Value.oneCell']) (by unfold maxLen; omega) (by omega) HCY2.out.2.size ?_
          intro v' Y3 hown hgrow _
          have HCY3 := Lib.hid (HCY2.out.grow hown hgrow)
          clear hown hgrow
          refine hK _ _ ⟨⟨⟨_, bthen HBE.out HCY3.out.2 HBE.out.size⟩, rfl⟩, ?_⟩
          clear hK K
          refine wpAnyN_one (i := 11) (by kernel_rfl) ?_
          refine wpOp_step rfl (fun K hK => ?_)
          rw [if_pos (by rfl)]
          refine wp_append_own _ _ _ 24 rfl WD.heap.size 40 i0 (.agg #[.int .i64 0, .int .i64 0, .int .i64 0, .int .i64 0, .int .i64 0, .int .i64 0]) 6 48 Try.underlying24 HI.out.1 HI.out.2.1 HI.out.2.2.1 HI.out.2.2.2 rfl (by decide) _ _ _ rfl HCY3.out.1 ⟨b, o + k * 6, none⟩ ((L.length - k)) (c - k) (cellsSJ (L.drop k)) rfl (HLD.out) (HPB.out.next HCY3.out.2) (cells_one6 _) (by unfold maxLen; omega) (by omega) HCY3.out.2.size ?_
          intro v' Y4 hown hgrow _
          have HCY4 := Lib.hid (HCY3.out.grow hown hgrow)
          clear hown hgrow
          refine hK _ _ ⟨⟨⟨_, bthen HBE.out HCY4.out.2 HBE.out.size⟩, rfl⟩, ?_⟩
          clear hK K
          have HF : Hid (Col w 40 6 v' (L.length + 1) (cellsSJ (ppL L p)) Y4) := by
            have h := HCY4.out.1
            have e : 0 + k + 1 + (L.length - k) = L.length + 1 := by omega
            rw [e] at h
            have e2 : cellsSJ (ppL L p) = [] ++ cellsSJ (L.take k) ++ [.int .i64 p.ln, .int .i64 p.bg, .int .i64 p.en, .int .i64 p.pi, .int .i64 p.bd, .int .i64 p.co] ++ cellsSJ (L.drop k) := by
              unfold ppL
              rw [HPK.out]
              simp [cellsSJ]
            rw [← e2] at h
            exact Lib.hid ⟨own_base h HBD.out.size, bthen HBD.out HCY4.out.2 HBD.out.size⟩
          refine wpAnyN_end rfl (by kernel_rfl) rfl ?_
          simp only [List.drop_succ_cons, List.drop_zero]
          obtain ⟨A9, c9, hv9, ho9, hb9⟩ := ownS_of_colJ HF.out HPL.out
          subst hv9
          have HO9 := Lib.hid ho9
          clear ho9 hb9
          go_wp2_with fail
          refine (pgood_spec_v _ _ _ (ppL L p) r HR.out _ HO9.out.sds (by unfold maxLen; omega)).mono ?_
          rintro e w9 ⟨rfl, hb⟩
          have HB9 := Lib.hid (bthen HF.out.2 hb HF.out.2.size)
          have HO10 := Lib.hid ((HO9.out.on hb (Nat.le_refl _)).wide (Nat.le_refl _) hb.size)
          clear hb
          rcases r with _ | _
          · go_wp2_with fail
            go_ret2
            exact pp_no (pp_2 HR.out) HB9.out
          · go_wp2_with fail
            go_ret2
            exact pp_yes (pp_3 H1.out HR.out) HPL.out.symm HO10.out HB9.out
    · obtain rfl : k = L.length := by omega
      have HPK := Lib.hid (ppK_is (L := L) (b := p.bg) hk hA.out (fun h => absurd h (by omega)))
      go_wp2_with fail
      refine region_later (W := W0) (by kernel_rfl) (by kernel_rfl) (Below.refl _ _) ?_
      repeat (go_big_quiet_step ((fail)))
      refine wpQuiet_nil ?_
      intro W1 hW1
      have HL : Hid (Below W0.heap.size W0 W1) := by obtain ⟨x, rfl⟩ := hW1; exact Lib.hid x.below
      clear hW1
      have b0 := cell_next HL.out a0
      have b1 := cell_next HL.out a1
      have b2 := cell_next HL.out a2
      have b3 := cell_next HL.out a3
      have b4 := cell_next HL.out a4
      have b5 := cell_next HL.out a5
      have HB2 := Lib.hid (bthen HBW0.out HL.out HBW0.out.size)
      clear a0 a1 a2 a3 a4 a5
      go_wp2_with fail
      have lc0 := lcell b0
      have lc1 := lcell b1
      have lc2 := lcell b2
      have lc3 := lcell b3
      have lc4 := lcell b4
      have lc5 := lcell b5
      refine region_readsL (W := W1) 12 6 [1, 2, 3, 5, 8, 9, 10] (by kernel_rfl) (by kernel_rfl) rfl (Below.refl _ _) (fun d _ _ _ _ h => by cases d <;> exact h) ?_
      simp only [picks, List.getElem?_cons_succ, List.getElem?_cons_zero]
      repeat (go_big_quiet_step (fail))
      refine wpQuiet_nil ?_
      clear lc0 lc1 lc2 lc3 lc4 lc5 b0 b1 b2 b3 b4 b5
      obtain ⟨WD, hWD⟩ : ∃ WD, WD = W1.drew := ⟨_, rfl⟩
      rw [← hWD]
      have hbd : Below W1.heap.size W1 WD := by rw [hWD]; exact (Below.refl _ _).drew
      have HBD := Lib.hid (bthen HB2.out hbd HB2.out.size)
      have HBE := Lib.hid hbd
      obtain ⟨P1, P2⟩ := part_row6 (sds_atJ HS.out HBD.out) (k := L.length) (by omega)
      have HPA := Lib.hid P1
      have HPB0 := Lib.hid P2
      clear P1 P2 hWD hbd
      obtain ⟨O3, hO3⟩ : ∃ O3 : Addr, (if c = L.length then some (⟨b, o, none⟩ : Addr) else some ⟨b, o + L.length * 6, none⟩) = some O3 := by
        split
        · exact ⟨_, rfl⟩
        · exact ⟨_, rfl⟩
      rw [hO3]
      have HPB : Hid (Part6 WD O3 (L.drop L.length)) := by
        split at hO3
        · rw [List.drop_eq_nil_of_le (by omega)]
          exact Lib.hid (part_none6 _ _)
        · obtain rfl := Option.some.inj hO3
          exact HPB0
      clear hO3
      have HLT : Hid ((cellsSJ (L.take L.length)).length = L.length * 6) := Lib.hid (by rw [cellsS_lenJ, List.length_take] <;> omega)
      have HLD : Hid ((cellsSJ (L.drop L.length)).length = 0 * 6) := Lib.hid (by rw [cellsS_lenJ, List.length_drop] <;> omega)
      have HBWD := Lib.hid (Below.refl WD.heap.size WD)
      refine wpAnyN_two (i := 0) (i' := 6) (by kernel_rfl) ?_ ?_
      · refine wpOp_step rfl (fun K hK => ?_)
        rw [if_pos (by rfl)]
        have HBB := Lib.hid (HBWD.out.alloc HBWD.out.size (.cells #[] 40))
        have HCC := Lib.hid (col_start 40 6 HBWD.out)
        go_simp
        refine hK _ _ ⟨⟨⟨_, bthen HBE.out HBB.out HBE.out.size⟩, rfl⟩, ?_⟩
        clear hK K
        obtain ⟨Y0, hX⟩ : ∃ V, V = WD.alloc (.cells #[] 40) := ⟨_, rfl⟩
        rw [← hX]
        rw [← hX] at HBB HCC
        clear hX
        have HBY0 := HBB
        clear HBB
        have HCY0 := HCC
        clear HCC
        refine wpAnyN_two (i := 4) (i' := 6) (by kernel_rfl) ?_ ?_
        · refine wpOp_step rfl (fun K hK => ?_)
          rw [if_pos (by rfl)]
          refine wp_append_own _ _ _ 24 rfl WD.heap.size 40 i0 (.agg #[.int .i64 0, .int .i64 0, .int .i64 0, .int .i64 0, .int .i64 0, .int .i64 0]) 6 48 Try.underlying24 HI.out.1 HI.out.2.1 HI.out.2.2.1 HI.out.2.2.2 rfl (by decide) _ _ _ rfl HCY0.out.1 ⟨b, o, none⟩ (L.length) (c) (cellsSJ (L.take L.length)) rfl (HLT.out) (HPA.out.next HCY0.out.2) (cells_one6 _) (by unfold maxLen; omega) (by omega) HCY0.out.2.size ?_
          intro v' Y1 hown hgrow _
          have HCY1 := Lib.hid (HCY0.out.grow hown hgrow)
          clear hown hgrow
          refine hK _ _ ⟨⟨⟨_, bthen HBE.out HCY1.out.2 HBE.out.size⟩, rfl⟩, ?_⟩
          clear hK K
          refine wpAnyN_one (i := 6) (by kernel_rfl) ?_
          have HBY1 := Lib.hid HCY1.out.2
          refine wpOp_step rfl (fun K hK => ?_)
          rw [if_pos (by rfl)]
          have HBB := Lib.hid (HBY1.out.alloc HBY1.out.size (.cells #[.int .i64 p.ln, .int .i64 p.bg, .int .i64 p.en, .int .i64 p.pi, .int .i64 p.bd, .int .i64 p.co] 40))
          have HGG := Lib.hid (Has.new Y1 #[.int .i64 p.ln, .int .i64 p.bg, .int .i64 p.en, .int .i64 p.pi, .int .i64 p.bd, .int .i64 p.co] 40)
          have HCC := Lib.hid (HCY1.out.next (box1 (Below.refl _ _) (w := Y1) (cs := #[.int .i64 p.ln, .int .i64 p.bg, .int .i64 p.en, .int .i64 p.pi, .int .i64 p.bd, .int .i64 p.co]) (T := 40)).1)
          go_simp
          refine hK _ _ ⟨⟨⟨_, bthen HBE.out HBB.out HBE.out.size⟩, rfl⟩, ?_⟩
          clear hK K
          obtain ⟨Y2, hX⟩ : ∃ V, V = Y1.alloc (.cells #[.int .i64 p.ln, .int .i64 p.bg, .int .i64 p.en, .int .i64 p.pi, .int .i64 p.bd, .int .i64 p.co] 40) := ⟨_, rfl⟩
          rw [← hX]
          rw [← hX] at HBB HGG HCC
          clear hX
          have HBY2 := HBB
          clear HBB
          have HGY2 := HGG
          clear HGG
          have HCY2 := HCC
          clear HCC
          refine wpAnyN_one (i := 7) (by kernel_rfl) ?_
          refine wpOp_step rfl (fun K hK => ?_)
          rw [if_pos (by rfl)]
          refine wp_append_own _ _ _ 24 rfl WD.heap.size 40 i0 (.agg #[.int .i64 0, .int .i64 0, .int .i64 0, .int .i64 0, .int .i64 0, .int .i64 0]) 6 48 Try.underlying24 HI.out.1 HI.out.2.1 HI.out.2.2.1 HI.out.2.2.2 rfl (by decide) _ _ _ rfl HCY2.out.1 ⟨Y1.heap.size, 0, none⟩ (1) (1) ([.int .i64 p.ln, .int .i64 p.bg, .int .i64 p.en, .int .i64 p.pi, .int .i64 p.bd, .int .i64 p.co]) rfl (rfl) (part_box6 HGY2.out) (by simp [Value.oneCell']) (by unfold maxLen; omega) (by omega) HCY2.out.2.size ?_
          intro v' Y3 hown hgrow _
          have HCY3 := Lib.hid (HCY2.out.grow hown hgrow)
          clear hown hgrow
          refine hK _ _ ⟨⟨⟨_, bthen HBE.out HCY3.out.2 HBE.out.size⟩, rfl⟩, ?_⟩
          clear hK K
          refine wpAnyN_one (i := 11) (by kernel_rfl) ?_
          refine wpOp_step rfl (fun K hK => ?_)
          rw [if_pos (by rfl)]
          refine wp_append_own _ _ _ 24 rfl WD.heap.size 40 i0 (.agg #[.int .i64 0, .int .i64 0, .int .i64 0, .int .i64 0, .int .i64 0, .int .i64 0]) 6 48 Try.underlying24 HI.out.1 HI.out.2.1 HI.out.2.2.1 HI.out.2.2.2 rfl (by decide) _ _ _ rfl HCY3.out.1 O3 (0) (c - L.length) (cellsSJ (L.drop L.length)) rfl (HLD.out) (HPB.out.next HCY3.out.2) (cells_one6 _) (by unfold maxLen; omega) (by omega) HCY3.out.2.size ?_
          intro v' Y4 hown hgrow _
          have HCY4 := Lib.hid (HCY3.out.grow hown hgrow)
          clear hown hgrow
          refine hK _ _ ⟨⟨⟨_, bthen HBE.out HCY4.out.2 HBE.out.size⟩, rfl⟩, ?_⟩
          clear hK K
          have HF : Hid (Col w 40 6 v' (L.length + 1) (cellsSJ (ppL L p)) Y4) := by
            have h := HCY4.out.1
            have e : 0 + L.length + 1 + 0 = L.length + 1 := by omega
            rw [e] at h
            have e2 : cellsSJ (ppL L p) = [] ++ cellsSJ (L.take L.length) ++ [.int .i64 p.ln, .int .i64 p.bg, .int .i64 p.en, .int .i64 p.pi, .int .i64 p.bd, .int .i64 p.co] ++ cellsSJ (L.drop L.length) := by
              unfold ppL
              rw [HPK.out]
              simp [cellsSJ]
            rw [← e2] at h
            exact Lib.hid ⟨own_base h HBD.out.size, bthen HBD.out HCY4.out.2 HBD.out.size⟩
          refine wpAnyN_end rfl (by kernel_rfl) rfl ?_
          simp only [List.drop_succ_cons, List.drop_zero]
          obtain ⟨A9, c9, hv9, ho9, hb9⟩ := ownS_of_colJ HF.out HPL.out
          subst hv9
          have HO9 := Lib.hid ho9
          clear ho9 hb9
          go_wp2_with fail
          refine (pgood_spec_v _ _ _ (ppL L p) r HR.out _ HO9.out.sds (by unfold maxLen; omega)).mono ?_
          rintro e w9 ⟨rfl, hb⟩
          have HB9 := Lib.hid (bthen HF.out.2 hb HF.out.2.size)
          have HO10 := Lib.hid ((HO9.out.on hb (Nat.le_refl _)).wide (Nat.le_refl _) hb.size)
          clear hb
          rcases r with _ | _
          · go_wp2_with fail
            go_ret2
            exact pp_no (pp_2 HR.out) HB9.out
          · go_wp2_with fail
            go_ret2
            exact pp_yes (pp_3 H1.out HR.out) HPL.out.symm HO10.out HB9.out
        · refine wpOp_step rfl (fun K hK => ?_)
          rw [if_pos (by rfl)]
          have HBB := Lib.hid (HBY0.out.alloc HBY0.out.size (.cells #[.int .i64 p.ln, .int .i64 p.bg, .int .i64 p.en, .int .i64 p.pi, .int .i64 p.bd, .int .i64 p.co] 40))
          have HGG := Lib.hid (Has.new Y0 #[.int .i64 p.ln, .int .i64 p.bg, .int .i64 p.en, .int .i64 p.pi, .int .i64 p.bd, .int .i64 p.co] 40)
          have HCC := Lib.hid (HCY0.out.next (box1 (Below.refl _ _) (w := Y0) (cs := #[.int .i64 p.ln, .int .i64 p.bg, .int .i64 p.en, .int .i64 p.pi, .int .i64 p.bd, .int .i64 p.co]) (T := 40)).1)
          go_simp
          refine hK _ _ ⟨⟨⟨_, bthen HBE.out HBB.out HBE.out.size⟩, rfl⟩, ?_⟩
          clear hK K
          obtain ⟨Y1, hX⟩ : ∃ V, V = Y0.alloc (.cells #[.int .i64 p.ln, .int .i64 p.bg, .int .i64 p.en, .int .i64 p.pi, .int .i64 p.bd, .int .i64 p.co] 40) := ⟨_, rfl⟩
          rw [← hX]
          rw [← hX] at HBB HGG HCC
          clear hX
          have HBY1 := HBB
          clear HBB
          have HGY1 := HGG
          clear HGG
          have HCY1 := HCC
          clear HCC
          refine wpAnyN_one (i := 4) (by kernel_rfl) ?_
          refine wpOp_step rfl (fun K hK => ?_)
          rw [if_pos (by rfl)]
          refine wp_append_own _ _ _ 24 rfl WD.heap.size 40 i0 (.agg #[.int .i64 0, .int .i64 0, .int .i64 0, .int .i64 0, .int .i64 0, .int .i64 0]) 6 48 Try.underlying24 HI.out.1 HI.out.2.1 HI.out.2.2.1 HI.out.2.2.2 rfl (by decide) _ _ _ rfl HCY1.out.1 ⟨b, o, none⟩ (L.length) (c) (cellsSJ (L.take L.length)) rfl (HLT.out) (HPA.out.next HCY1.out.2) (cells_one6 _) (by unfold maxLen; omega) (by omega) HCY1.out.2.size ?_
          intro v' Y2 hown hgrow _
          have HCY2 := Lib.hid (HCY1.out.grow hown hgrow)
          have HGY2 := Lib.hid (has_grown HGY1.out hgrow (row_apartJ HCY0.out.1))
          clear hown hgrow
          refine hK _ _ ⟨⟨⟨_, bthen HBE.out HCY2.out.2 HBE.out.size⟩, rfl⟩, ?_⟩
          clear hK K
          refine wpAnyN_one (i := 7) (by kernel_rfl) ?_
          refine wpOp_step rfl (fun K hK => ?_)
          rw [if_pos (by rfl)]
          refine wp_append_own _ _ _ 24 rfl WD.heap.size 40 i0 (.agg #[.int .i64 0, .int .i64 0, .int .i64 0, .int .i64 0, .int .i64 0, .int .i64 0]) 6 48 Try.underlying24 HI.out.1 HI.out.2.1 HI.out.2.2.1 HI.out.2.2.2 rfl (by decide) _ _ _ rfl HCY2.out.1 ⟨Y0.heap.size, 0, none⟩ (1) (1) ([.int .i64 p.ln, .int .i64 p.bg, .int .i64 p.en, .int .i64 p.pi, .int .i64 p.bd, .int .i64 p.co]) rfl (rfl) (part_box6 HGY2.out) (by simp [Value.oneCell']) (by unfold maxLen; omega) (by omega) HCY2.out.2.size ?_
          intro v' Y3 hown hgrow _
          have HCY3 := Lib.hid (HCY2.out.grow hown hgrow)
          clear hown hgrow
          refine hK _ _ ⟨⟨⟨_, bthen HBE.out HCY3.out.2 HBE.out.size⟩, rfl⟩, ?_⟩
          clear hK K
          refine wpAnyN_one (i := 11) (by kernel_rfl) ?_
          refine wpOp_step rfl (fun K hK => ?_)
          rw [if_pos (by rfl)]
          refine wp_append_own _ _ _ 24 rfl WD.heap.size 40 i0 (.agg #[.int .i64 0, .int .i64 0, .int .i64 0, .int .i64 0, .int .i64 0, .int .i64 0]) 6 48 Try.underlying24 HI.out.1 HI.out.2.1 HI.out.2.2.1 HI.out.2.2.2 rfl (by decide) _ _ _ rfl HCY3.out.1 O3 (0) (c - L.length) (cellsSJ (L.drop L.length)) rfl (HLD.out) (HPB.out.next HCY3.out.2) (cells_one6 _) (by unfold maxLen; omega) (by omega) HCY3.out.2.size ?_
          intro v' Y4 hown hgrow _
          have HCY4 := Lib.hid (HCY3.out.grow hown hgrow)
          clear hown hgrow
          refine hK _ _ ⟨⟨⟨_, bthen HBE.out HCY4.out.2 HBE.out.size⟩, rfl⟩, ?_⟩
          clear hK K
          have HF : Hid (Col w 40 6 v' (L.length + 1) (cellsSJ (ppL L p)) Y4) := by
            have h := HCY4.out.1
            have e : 0 + L.length + 1 + 0 = L.length + 1 := by omega
            rw [e] at h
            have e2 : cellsSJ (ppL L p) = [] ++ cellsSJ (L.take L.length) ++ [.int .i64 p.ln, .int .i64 p.bg, .int .i64 p.en, .int .i64 p.pi, .int .i64 p.bd, .int .i64 p.co] ++ cellsSJ (L.drop L.length) := by
              unfold ppL
              rw [HPK.out]
              simp [cellsSJ]
            rw [← e2] at h
            exact Lib.hid ⟨own_base h HBD.out.size, bthen HBD.out HCY4.out.2 HBD.out.size⟩
          refine wpAnyN_end rfl (by kernel_rfl) rfl ?_
          simp only [List.drop_succ_cons, List.drop_zero]
          obtain ⟨A9, c9, hv9, ho9, hb9⟩ := ownS_of_colJ HF.out HPL.out
          subst hv9
          have HO9 := Lib.hid ho9
          clear ho9 hb9
          go_wp2_with fail
          refine (pgood_spec_v _ _ _ (ppL L p) r HR.out _ HO9.out.sds (by unfold maxLen; omega)).mono ?_
          rintro e w9 ⟨rfl, hb⟩
          have HB9 := Lib.hid (bthen HF.out.2 hb HF.out.2.size)
          have HO10 := Lib.hid ((HO9.out.on hb (Nat.le_refl _)).wide (Nat.le_refl _) hb.size)
          clear hb
          rcases r with _ | _
          · go_wp2_with fail
            go_ret2
            exact pp_no (pp_2 HR.out) HB9.out
          · go_wp2_with fail
            go_ret2
            exact pp_yes (pp_3 H1.out HR.out) HPL.out.symm HO10.out HB9.out
      · refine wpOp_step rfl (fun K hK => ?_)
        rw [if_pos (by rfl)]
        have HBB := Lib.hid (HBWD.out.alloc HBWD.out.size (.cells #[.int .i64 p.ln, .int .i64 p.bg, .int .i64 p.en, .int .i64 p.pi, .int .i64 p.bd, .int .i64 p.co] 40))
        have HGG := Lib.hid (Has.new WD #[.int .i64 p.ln, .int .i64 p.bg, .int .i64 p.en, .int .i64 p.pi, .int .i64 p.bd, .int .i64 p.co] 40)
        have HZZ : Hid ((WD.alloc (.cells #[.int .i64 p.ln, .int .i64 p.bg, .int .i64 p.en, .int .i64 p.pi, .int .i64 p.bd, .int .i64 p.co] 40)).heap.size = WD.heap.size + 1) := Lib.hid (World.size_alloc _ _)
        go_simp
        refine hK _ _ ⟨⟨⟨_, bthen HBE.out HBB.out HBE.out.size⟩, rfl⟩, ?_⟩
        clear hK K
        obtain ⟨Y0, hX⟩ : ∃ V, V = WD.alloc (.cells #[.int .i64 p.ln, .int .i64 p.bg, .int .i64 p.en, .int .i64 p.pi, .int .i64 p.bd, .int .i64 p.co] 40) := ⟨_, rfl⟩
        rw [← hX]
        rw [← hX] at HBB HGG HZZ
        clear hX
        have HBY0 := HBB
        clear HBB
        have HGY0 := HGG
        clear HGG
        have HZY : Hid (Y0.heap.size = WD.heap.size + 1) := HZZ
        refine wpAnyN_one (i := 0) (by kernel_rfl) ?_
        refine wpOp_step rfl (fun K hK => ?_)
        rw [if_pos (by rfl)]
        have HBB := Lib.hid (HBY0.out.alloc HBY0.out.size (.cells #[] 40))
        have HCC := Lib.hid (col_start 40 6 HBY0.out)
        have HGG := Lib.hid (HGY0.out.next (box1 (Below.refl _ _) (w := Y0) (cs := #[]) (T := 40)).1)
        go_simp
        refine hK _ _ ⟨⟨⟨_, bthen HBE.out HBB.out HBE.out.size⟩, rfl⟩, ?_⟩
        clear hK K
        obtain ⟨Y1, hX⟩ : ∃ V, V = Y0.alloc (.cells #[] 40) := ⟨_, rfl⟩
        rw [← hX]
        rw [← hX] at HBB HCC HGG
        clear hX
        have HBY1 := HBB
        clear HBB
        have HCY1 := HCC
        clear HCC
        have HGY1 := HGG
        clear HGG
        refine wpAnyN_one (i := 4) (by kernel_rfl) ?_
        refine wpOp_step rfl (fun K hK => ?_)
        rw [if_pos (by rfl)]
        refine wp_append_own _ _ _ 24 rfl WD.heap.size 40 i0 (.agg #[.int .i64 0, .int .i64 0, .int .i64 0, .int .i64 0, .int .i64 0, .int .i64 0]) 6 48 Try.underlying24 HI.out.1 HI.out.2.1 HI.out.2.2.1 HI.out.2.2.2 rfl (by decide) _ _ _ rfl HCY1.out.1 ⟨b, o, none⟩ (L.length) (c) (cellsSJ (L.take L.length)) rfl (HLT.out) (HPA.out.next HCY1.out.2) (cells_one6 _) (by unfold maxLen; omega) (by omega) HCY1.out.2.size ?_
        intro v' Y2 hown hgrow _
        have HCY2 := Lib.hid (HCY1.out.grow hown hgrow)
        have HGY2 := Lib.hid (has_grown HGY1.out hgrow (fun e => by have e2 : WD.heap.size = Y0.heap.size := Option.some.inj e; have := HZY.out; omega))
        clear hown hgrow
        refine hK _ _ ⟨⟨⟨_, bthen HBE.out HCY2.out.2 HBE.out.size⟩, rfl⟩, ?_⟩
        clear hK K
        refine wpAnyN_one (i := 7) (by kernel_rfl) ?_
        refine wpOp_step rfl (fun K hK => ?_)
        rw [if_pos (by rfl)]
        refine wp_append_own _ _ _ 24 rfl WD.heap.size 40 i0 (.agg #[.int .i64 0, .int .i64 0, .int .i64 0, .int .i64 0, .int .i64 0, .int .i64 0]) 6 48 Try.underlying24 HI.out.1 HI.out.2.1 HI.out.2.2.1 HI.out.2.2.2 rfl (by decide) _ _ _ rfl HCY2.out.1 ⟨WD.heap.size, 0, none⟩ (1) (1) ([.int .i64 p.ln, .int .i64 p.bg, .int .i64 p.en, .int .i64 p.pi, .int .i64 p.bd, .int .i64 p.co]) rfl (rfl) (part_box6 HGY2.out) (by simp [Value.oneCell']) (by unfold maxLen; omega) (by omega) HCY2.out.2.size ?_
        intro v' Y3 hown hgrow _
        have HCY3 := Lib.hid (HCY2.out.grow hown hgrow)
        clear hown hgrow
        refine hK _ _ ⟨⟨⟨_, bthen HBE.out HCY3.out.2 HBE.out.size⟩, rfl⟩, ?_⟩
        clear hK K
        refine wpAnyN_one (i := 11) (by kernel_rfl) ?_
        refine wpOp_step rfl (fun K hK => ?_)
        rw [if_pos (by rfl)]
        refine wp_append_own _ _ _ 24 rfl WD.heap.size 40 i0 (.agg #[.int .i64 0, .int .i64 0, .int .i64 0, .int .i64 0, .int .i64 0, .int .i64 0]) 6 48 Try.underlying24 HI.out.1 HI.out.2.1 HI.out.2.2.1 HI.out.2.2.2 rfl (by decide) _ _ _ rfl HCY3.out.1 O3 (0) (c - L.length) (cellsSJ (L.drop L.length)) rfl (HLD.out) (HPB.out.next HCY3.out.2) (cells_one6 _) (by unfold maxLen; omega) (by omega) HCY3.out.2.size ?_
        intro v' Y4 hown hgrow _
        have HCY4 := Lib.hid (HCY3.out.grow hown hgrow)
        clear hown hgrow
        refine hK _ _ ⟨⟨⟨_, bthen HBE.out HCY4.out.2 HBE.out.size⟩, rfl⟩, ?_⟩
        clear hK K
        have HF : Hid (Col w 40 6 v' (L.length + 1) (cellsSJ (ppL L p)) Y4) := by
          have h := HCY4.out.1
          have e : 0 + L.length + 1 + 0 = L.length + 1 := by omega
          rw [e] at h
          have e2 : cellsSJ (ppL L p) = [] ++ cellsSJ (L.take L.length) ++ [.int .i64 p.ln, .int .i64 p.bg, .int .i64 p.en, .int .i64 p.pi, .int .i64 p.bd, .int .i64 p.co] ++ cellsSJ (L.drop L.length) := by
            unfold ppL
            rw [HPK.out]
            simp [cellsSJ]
          rw [← e2] at h
          exact Lib.hid ⟨own_base h HBD.out.size, bthen HBD.out HCY4.out.2 HBD.out.size⟩
        refine wpAnyN_end rfl (by kernel_rfl) rfl ?_
        simp only [List.drop_succ_cons, List.drop_zero]
        obtain ⟨A9, c9, hv9, ho9, hb9⟩ := ownS_of_colJ HF.out HPL.out
        subst hv9
        have HO9 := Lib.hid ho9
        clear ho9 hb9
        go_wp2_with fail
        refine (pgood_spec_v _ _ _ (ppL L p) r HR.out _ HO9.out.sds (by unfold maxLen; omega)).mono ?_
        rintro e w9 ⟨rfl, hb⟩
        have HB9 := Lib.hid (bthen HF.out.2 hb HF.out.2.size)
        have HO10 := Lib.hid ((HO9.out.on hb (Nat.le_refl _)).wide (Nat.le_refl _) hb.size)
        clear hb
        rcases r with _ | _
        · go_wp2_with fail
          go_ret2
          exact pp_no (pp_2 HR.out) HB9.out
        · go_wp2_with fail
          go_ret2
          exact pp_yes (pp_3 H1.out HR.out) HPL.out.symm HO10.out HB9.out
end Go.Proofs.Ytllfmjnniagjfaa
