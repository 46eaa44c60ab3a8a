/-
  Divided layers: contracts of impl.SplitStrata, spec.SplitStrata over this translation. Conditions: stated at each theorem.
-/
import Derived.Test.YtdmnkmdlochogabYk
import Derived.Test.YtdmnkmdlochogabYx
namespace Go.Proofs.Ytdmnkmdlochogab
open Go.RowKit
set_option linter.unusedVariables false

def ssK (l : List (Int × Int)) (d : Int) : Bool := strB l && inB d 1 (thk l - 1) && strB (spl l d)
def ssR (l : List (Int × Int)) (d : Int) : List (Int × Int) := if ssK l d then spl l d else []
theorem ssR_len (l : List (Int × Int)) (d : Int) : (ssR l d).length ≤ 1048576 := by
  unfold ssR
  split
  · rename_i h
    unfold ssK at h
    simp only [Bool.and_eq_true] at h
    have := (str_parts h.2).1
    omega
  · simp
def SsPost (l : List (Int × Int)) (d : Int) (w : World) (e : Ending) (w' : World) : Prop :=
  ∃ A c, e = .returned (.tuple #[.slice A (ssR l d).length c, .bool (ssK l d)]) ∧ Own2 w' w.heap.size w'.heap.size A (ssR l d).length (ssR l d) ∧ Below w.heap.size w w' ∧ (ssR l d).length ≤ c ∧ c ≤ maxLen
theorem ss_no {l : List (Int × Int)} {d : Int} {w w' : World} {v : Value} (h : ssK l d = false) (hc : Col w 125 2 v 0 [] w') : SsPost l d w (.returned (.tuple #[v, .bool false])) w' := by
  obtain ⟨A, c, rfl⟩ := own_slice hc.1
  unfold SsPost ssR
  rw [h]
  exact ⟨A, c, rfl, Own2.nil _ _ _ _, hc.2, row_cap hc.1⟩
theorem ss_yes {l L : List (Int × Int)} {d : Int} {w w' : World} {A : Option Addr} {n c : Nat} (h : ssK l d = true) (hL : spl l d = L) (hn : L.length = n) (hO : Own2 w' w.heap.size w'.heap.size A n L) (hb : Below w.heap.size w w') (hc : n ≤ c ∧ c ≤ maxLen) : SsPost l d w (.returned (.tuple #[.slice A n c, .bool true])) w' := by
  subst hL hn
  unfold SsPost ssR
  rw [h]
  exact ⟨A, c, rfl, hO, hb, hc⟩
theorem ss_pairs {l : List (Int × Int)} {d : Int} {w w' : World} {e : Ending} (h : SsPost l d w e w') : PairsPost (ssR l d) (ssK l d) w e w' := by
  obtain ⟨A, c, he, hO, hb, _⟩ := h
  exact ⟨A, c, he, hO, hb⟩
theorem spots_col {w w' : World} {e : TypeId} {A : Option Addr} {c n : Nat} {L : List (Int × Int)} (h : Col w e 2 (.slice A n c) n (cells2 L) w') (hn : L.length = n) : Spots w' w'.heap.size A n L :=
  (own2_of_row h.1 hn).spots (Nat.le_refl _)
set_option maxRecDepth 20000 in
set_option maxHeartbeats 3200000 in
theorem split_impl (A : Option Addr) (n c : Nat) (l : List (Int × Int)) (d : Int) (w : World) (hs : Spots w w.heap.size A n l) (hm : n ≤ maxLen) (hc : n ≤ c) (hcm : c ≤ maxLen) :
    Calls Try.prog 37 #[.slice A n c, .int .i64 d] w (SsPost l d w) := by
  obtain rfl := hs.1
  have HS := Lib.hid hs
  clear hs
  rcases h1 : strB l with _ | _
  · have HT : Hid (tdN l = 0 ∧ strB l = false) := by unfold Hid tdN; rw [h1]; exact ⟨rfl, rfl⟩
    have HK : Hid (ssK l d = false) := by unfold Hid ssK; rw [h1]; rfl
    clear h1
    go_enter Try.func37, Try.ntmps37
    go_wp2_with fail
    refine (totalD_v _ _ _ l _ _ HT.out.1 HT.out.2 _ HS.out hm).mono ?_
    rintro e w1 ⟨rfl, hb⟩
    have HE := Lib.hid (ss_no HK.out (col_start 125 2 hb))
    clear hb
    go_wp2_with fail
    go_ret2
    exact HE.out
  obtain ⟨T, hT⟩ : ∃ T, thk l = T := ⟨_, rfl⟩
  have HT : Hid (tdN l = T ∧ strB l = true) := by unfold Hid tdN; rw [h1, ← hT]; exact ⟨rfl, rfl⟩
  obtain ⟨⟨h51, h52⟩, hg⟩ := str_parts h1
  have hTb := thk_bd hg
  rw [hT] at hTb
  obtain ⟨hT1, hT2⟩ := hTb
  rcases h2 : inB d 1 (T - 1) with _ | _
  · have H2 := Lib.hid h2
    have HK : Hid (ssK l d = false) := by unfold Hid ssK; rw [hT, h2, h1]; rfl
    clear h1 h2
    go_enter Try.func37, Try.ntmps37
    go_wp2_with fail
    refine (totalD_v _ _ _ l _ _ HT.out.1 HT.out.2 _ HS.out hm).mono ?_
    rintro e w1 ⟨rfl, hb⟩
    have HE := Lib.hid (ss_no HK.out (col_start 125 2 hb))
    clear hb
    go_wp2_with fail
    refine (within_v _ _ _ _ H2.out _).mono ?_
    rintro e w' ⟨rfl, rfl⟩
    go_wp2_with fail
    go_ret2
    exact HE.out
  have H2 := Lib.hid h2
  obtain ⟨hd0, hd1⟩ := inB_yes h2
  have HKX : Hid (ssK l d = strB (spl l d)) := by unfold Hid ssK; rw [hT, h2, h1]; rfl
  have HG := Lib.hid hg
  have hlen := (spl_len l d).2
  obtain ⟨L, hL⟩ : ∃ L, spl l d = L := ⟨_, rfl⟩
  rw [hL] at HKX hlen
  have HLL := Lib.hid hL
  have hTd : d ≤ thk l := by rw [hT]; omega
  have HTd := Lib.hid hTd
  clear h1 h2 hg hT hTd
  have HP : ∀ (W : World) (P : Option Addr), Chain W l P → Hid (Calls Try.prog 116 #[.pointer P, .int .i64 d] W (DivPost L W)) := fun W P hC => by
    rw [← hL]; exact Lib.hid (divided_any l P d W hC HG.out (by omega) HTd.out (by omega))
  clear hL
  rcases h3 : strB L with _ | _
  all_goals
    have H3 := Lib.hid h3
    have HK := Lib.hid (HKX.out.trans h3)
    clear h3
    go_enter Try.func37, Try.ntmps37
    go_wp2_with fail
    refine (totalD_v _ _ _ l _ _ HT.out.1 HT.out.2 _ HS.out hm).mono ?_
    rintro e w1 ⟨rfl, hb⟩
    have HB1 := Lib.hid hb
    clear hb
    go_wp2_with fail
    refine (within_v _ _ _ _ H2.out _).mono ?_
    rintro e w' ⟨rfl, rfl⟩
    go_wp2_with fail
    refine (water_any l _ _ _ _ (spots_at HS.out HB1.out) hm hc hcm).mono ?_
    rintro e w2 ⟨P, rfl, hC, hb⟩
    have HB2 := Lib.hid (bthen HB1.out hb HB1.out.size)
    have HD := HP w2 P hC
    clear hb hC
    go_wp2_with fail
    refine HD.out.mono ?_
    rintro e w3 ⟨P2, rfl, hC, hb⟩
    have HB3 := Lib.hid (bthen HB2.out hb HB2.out.size)
    have HC := Lib.hid hC
    clear hb hC
    go_wp2_with fail
    refine (layers_any L P2 _ HC.out (by omega)).mono ?_
    rintro e w4 ⟨R, cap, rfl, hO, hb, hcap⟩
    have HB4 := Lib.hid (bthen HB3.out hb HB3.out.size)
    have HO := Lib.hid (hO.wide (lo' := w.heap.size) HB3.out.size (Nat.le_refl _))
    have HCap := Lib.hid hcap
    have HY := Lib.hid (hO.spots (Nat.le_refl _))
    have hLm : L.length ≤ maxLen := by unfold maxLen; omega
    clear hb hO hcap
    go_wp2_with fail
    refine (areSt_v _ _ _ L _ H3.out _ HY.out hLm).mono ?_
    rintro e w5 ⟨rfl, hb⟩
    have HB5 := Lib.hid (bthen HB4.out hb HB4.out.size)
    have HO5 := Lib.hid ((HO.out.on hb (Nat.le_refl _)).wide (Nat.le_refl _) hb.size)
    clear hb
  · have HE := Lib.hid (ss_no HK.out (col_start 125 2 HB5.out))
    go_wp2_with fail
    go_ret2
    exact HE.out
  · have HE := Lib.hid (ss_yes HK.out HLL.out rfl HO5.out HB5.out HCap.out)
    go_wp2_with fail
    go_ret2
    exact HE.out
theorem sp1_yes {x y a d : Int} (h : inB (prt x a d) 1 (x - 1) = true) : sp1 x y a d = [(prt x a d, y), (x - prt x a d, y)] := by unfold sp1; rw [if_pos h]
theorem sp1_no {x y a d : Int} (h : inB (prt x a d) 1 (x - 1) = false) : sp1 x y a d = [(x, y)] := by unfold sp1; rw [h]; rfl
theorem sp1_len (x y a d : Int) : (sp1 x y a d).length ≤ 2 := by unfold sp1; split <;> simp
theorem spS_len (l : List (Int × Int)) (a d : Int) : (spS l a d).length ≤ 2 * l.length := by
  induction l generalizing a with
  | nil => simp [spS]
  | cons p t ih =>
    have h1 := sp1_len p.1 p.2 a d
    have h2 := ih (a + p.1)
    simp only [spS, List.length_append, List.length_cons]
    omega
set_option maxRecDepth 20000 in
set_option maxHeartbeats 6400000 in
theorem split_spec (A : Option Addr) (n c : Nat) (l : List (Int × Int)) (d : Int) (w : World) (hs : Spots w w.heap.size A n l) (hm : n ≤ maxLen) (hc : n ≤ c) (hcm : c ≤ maxLen) :
    Calls Try.prog 46 #[.slice A n c, .int .i64 d] w (SsPost l d w) := by
  obtain rfl := hs.1
  obtain ⟨i0, hi, hz0, hz1, hz2⟩ := info_parts infoStr2
  have HI := Lib.hid (And.intro hi (And.intro hz0 (And.intro hz1 hz2)))
  clear hi hz0 hz1 hz2
  have HS := Lib.hid (spots_alloc hs (.cells #[] 125))
  have HS0 := Lib.hid hs
  have HC : Hid (Col w 125 2 (.slice (some ⟨w.heap.size, 0, none⟩) 0 0) 0 [] (w.alloc (.cells #[] 125))) := Lib.hid (col_start 125 2 (Below.refl _ _))
  clear hs
  rcases h1 : strB l with _ | _
  · have H1 := Lib.hid h1
    have HK : Hid (ssK l d = false) := by unfold Hid ssK; rw [h1]; rfl
    clear h1
    go_enter Try.func46, Try.ntmps46
    go_wp2_with fail
    refine (goodS_v _ _ _ l _ H1.out _ HS.out hm).mono ?_
    rintro e w' ⟨rfl, rfl⟩
    have HE := Lib.hid (ss_no HK.out HC.out)
    go_wp2_with fail
    go_ret2
    exact HE.out
  have H1 := Lib.hid h1
  obtain ⟨T, hT⟩ : ∃ T, thk l = T := ⟨_, rfl⟩
  obtain ⟨⟨h51, h52⟩, hg⟩ := str_parts h1
  have hTb := thk_bd hg
  rw [hT] at hTb
  obtain ⟨hT1, hT2⟩ := hTb
  have HG := Lib.hid hg
  have HTT := Lib.hid hT
  rcases h2 : inB d 1 (T - 1) with _ | _
  · have H2 := Lib.hid h2
    have HK : Hid (ssK l d = false) := by unfold Hid ssK; rw [hT, h2, h1]; rfl
    clear h1 h2 hT hg
    go_enter Try.func46, Try.ntmps46
    go_wp2_with fail
    refine (goodS_v _ _ _ l _ H1.out _ HS.out hm).mono ?_
    rintro e w' ⟨rfl, rfl⟩
    go_wp2_with fail
    refine (total_spec _ _ _ l T HTT.out _ HS.out HG.out (by omega)).mono ?_
    rintro e w' ⟨rfl, rfl⟩
    go_wp2_with fail
    refine (l1In_v _ _ _ _ H2.out _).mono ?_
    rintro e w' ⟨rfl, rfl⟩
    have HE := Lib.hid (ss_no HK.out HC.out)
    go_wp2_with fail
    go_ret2
    exact HE.out
  have H2 := Lib.hid h2
  obtain ⟨hd0, hd1⟩ := inB_yes h2
  obtain ⟨L, hL⟩ : ∃ L, spl l d = L := ⟨_, rfl⟩
  have HKX : Hid (ssK l d = strB L) := by unfold Hid ssK; rw [hT, h2, h1, hL]; rfl
  have HLS : Hid (spS l 0 d = L) := by unfold Hid; rw [spS_eq hg, Int.sub_zero, hL]
  have HLL := Lib.hid hL
  clear h1 h2 hg hT hL
  go_enter Try.func46, Try.ntmps46
  go_wp2_with fail
  refine (goodS_v _ _ _ l _ H1.out _ HS.out hm).mono ?_
  rintro e w' ⟨rfl, rfl⟩
  go_wp2_with fail
  refine (total_spec _ _ _ l T HTT.out _ HS.out HG.out (by omega)).mono ?_
  rintro e w' ⟨rfl, rfl⟩
  go_wp2_with fail
  refine (l1In_v _ _ _ _ H2.out _).mono ?_
  rintro e w' ⟨rfl, rfl⟩
  go_wp2_with fail
  go_loopw [6, 7] (fun s i wr => ∃ (k m : Nat) (v : Value), k ≤ l.length ∧ m ≤ 2 * k ∧ i = .int .i64 k ∧ s = v ∧ Hid ((spS (l.take k) 0 d).length = m) ∧ Hid (Col w 125 2 v m (cells2 (spS (l.take k) 0 d)) wr)) (fun _ i _ => l.length - (intOf i).toNat)
  case atStart => exact ⟨0, 0, _, Nat.zero_le _, by omega, rfl, rfl, rfl, HC⟩
  case round =>
    obtain ⟨k, m, v, hk, hmk, rfl, hsv, hLn, hR⟩ := hrel
    obtain ⟨R0, cap0, rfl⟩ := own_slice hR.out.1
    subst hsv
    obtain ⟨W0, rfl⟩ : ∃ W : World, W = wr := ⟨_, rfl⟩
    have HSr := Lib.hid (spots_at HS0.out hR.out.2)
    by_cases hlt : k < l.length
    · obtain ⟨b, o, x, y, rfl, hbl, hlk, c0, c1⟩ := HSr.out.2 k hlt
      obtain ⟨hx, hy⟩ := HG.out.at_ hlk
      obtain ⟨P, hP⟩ : ∃ P, prt x (thk (l.take k)) d = P := ⟨_, rfl⟩
      have hPb := prt_bd (x := x) (a := thk (l.take k)) (d := d) (by omega)
      rw [hP] at hPb
      obtain ⟨hP0, hP1⟩ := hPb
      have HP := Lib.hid hP
      have HK := Lib.hid hlk
      have hst := spS_take hlk d
      obtain ⟨W1, hW1⟩ : ∃ W, W = W0.alloc (.cells #[.int .i64 x, .int .i64 y] 125) := ⟨_, rfl⟩
      have HX : Hid (Below W0.heap.size W0 W1 ∧ Has W1 W0.heap.size [.int .i64 x, .int .i64 y]) := by rw [hW1]; exact Lib.hid (box1 (Below.refl _ _))
      have HE := Lib.hid hW1
      have HS1 := Lib.hid (spots_more HSr.out HX.out.1)
      have HR1 := Lib.hid (hR.out.next HX.out.1)
      have hlt0 : ∀ j, (Value.slice R0 m cap0).ownBlock = some j → j < W0.heap.size := fun j hj => (hR.out.1.lt j hj).2
      have HLT := Lib.hid hlt0
      clear hW1 hlt0 hR hbl
      rcases h3 : inB P 1 (x - 1) with _ | _
      · have H3 := Lib.hid h3
        have HV : Hid (spS (l.take (k + 1)) 0 d = spS (l.take k) 0 d ++ [(x, y)]) := by unfold Hid; rw [hst, sp1_no (by rw [hP]; exact h3)]
        clear h3 hst hP hlk
        go_wp2_with fail
        rw [← HE.out]
        refine (part_spec _ c l k x y d P HK.out HP.out _ HS1.out HG.out h52 hc hcm (by omega) (by omega)).mono ?_
        rintro e W2 ⟨rfl, hb⟩
        have HR2 := Lib.hid (HR1.out.next hb)
        have HX2 := Lib.hid (HX.out.2.next hb)
        have a0 := HX2.out.at_ 0 _ rfl
        have a1 := HX2.out.at_ 1 _ rfl
        clear hb c0 c1
        go_wp2_with fail
        refine (l1In_v _ _ _ _ H3.out _).mono ?_
        rintro e w' ⟨rfl, rfl⟩
        go_wp2_with (at_builtin; go_loud (refine wpList_append_own _ rfl _ _ 45 rfl w.heap.size 125 i0 (.agg #[.int .i64 0, .int .i64 0]) 2 16 Try.underlying45 HI.out.1 HI.out.2.1 HI.out.2.2.1 HI.out.2.2.2 rfl (by decide) _ _ _ rfl (HR2.out.1.alloc _) ⟨W2.heap.size, 0, none⟩ 1 1 [.int .i64 x, .int .i64 y] rfl rfl (two_new _ _ _ _) (by simp [Value.oneCell']) (by unfold maxLen; omega) (by omega) (by have := HR2.out.2.size; simp; omega) ?_; intro v' w5 hown' hgrow _; have HN := Lib.hid (HR2.out.step hown' hgrow); clear hown' hgrow))
        have hn3 := HN.out
        rw [← cells2_snoc, ← HV.out] at hn3
        have HN3 := Lib.hid hn3
        have HL3 : Hid ((spS (l.take (k + 1)) 0 d).length = m + 1) := by unfold Hid; rw [HV.out, List.length_append, hLn.out]; rfl
        clear hn3
        go_roundw
        case rel => exact ⟨k + 1, m + 1, _, by omega, by omega, by go_num, rfl, HL3, HN3⟩
        case measure => simp [intOf]; omega
      · have H3 := Lib.hid h3
        have HV : Hid (spS (l.take (k + 1)) 0 d = spS (l.take k) 0 d ++ [(P, y)] ++ [(x - P, y)]) := by unfold Hid; rw [hst, sp1_yes (by rw [hP]; exact h3), hP, List.append_assoc]; rfl
        clear h3 hst hP hlk
        go_wp2_with fail
        rw [← HE.out]
        refine (part_spec _ c l k x y d P HK.out HP.out _ HS1.out HG.out h52 hc hcm (by omega) (by omega)).mono ?_
        rintro e W2 ⟨rfl, hb⟩
        have HR2 := Lib.hid (HR1.out.next hb)
        have HX2 := Lib.hid (HX.out.2.next hb)
        have a0 := HX2.out.at_ 0 _ rfl
        have a1 := HX2.out.at_ 1 _ rfl
        clear hb c0 c1
        go_wp2_with fail
        refine (l1In_v _ _ _ _ H3.out _).mono ?_
        rintro e w' ⟨rfl, rfl⟩
        go_wp2_with (at_builtin; first | (refine wpList_append_own _ rfl _ _ 45 rfl w.heap.size 125 i0 (.agg #[.int .i64 0, .int .i64 0]) 2 16 Try.underlying45 HI.out.1 HI.out.2.1 HI.out.2.2.1 HI.out.2.2.2 rfl (by decide) _ _ _ rfl (HR2.out.1.alloc _) ⟨W2.heap.size, 0, none⟩ 1 1 [.int .i64 P, .int .i64 y] rfl rfl (two_new _ _ _ _) (by simp [Value.oneCell']) (by unfold maxLen; omega) (by omega) (by have := HR2.out.2.size; simp; omega) ?_; intro v' w5 hown' hgrow _; have HN := Lib.hid (HR2.out.step hown' hgrow); have HX5 := Lib.hid (has_grown (HX2.out.alloc _) hgrow (fun e => by have := HLT.out _ e.symm; omega)); obtain ⟨R1, cap1, rfl⟩ := own_slice hown'; clear hown' hgrow a0 a1; have a0 := HX5.out.at_ 0 _ rfl; have a1 := HX5.out.at_ 1 _ rfl) | (refine wpList_append_own _ rfl _ _ 45 rfl w.heap.size 125 i0 (.agg #[.int .i64 0, .int .i64 0]) 2 16 Try.underlying45 HI.out.1 HI.out.2.1 HI.out.2.2.1 HI.out.2.2.2 rfl (by decide) _ _ _ rfl (HN.out.1.alloc _) ⟨w5.heap.size, 0, none⟩ 1 1 [.int .i64 (x - P), .int .i64 y] rfl rfl (two_new _ _ _ _) (by simp [Value.oneCell']) (by unfold maxLen; omega) (by omega) (by have := HN.out.2.size; simp; omega) ?_; intro v' w6 hown' hgrow _; have HN2 := Lib.hid (HN.out.step hown' hgrow); clear hown' hgrow))
        have hn3 := HN2.out
        rw [← cells2_snoc, ← cells2_snoc, ← HV.out] at hn3
        have HN3 := Lib.hid hn3
        have HL3 : Hid ((spS (l.take (k + 1)) 0 d).length = m + 1 + 1) := by unfold Hid; rw [HV.out, List.length_append, List.length_append, hLn.out]; rfl
        clear hn3
        go_roundw
        case rel => exact ⟨k + 1, m + 1 + 1, _, by omega, by omega, by go_num, rfl, HL3, HN3⟩
        case measure => simp [intOf]; omega
    · have hke : k = l.length := by omega
      have hr := hR.out
      have hl := hLn.out
      rw [hke, List.take_length, HLS.out] at hr hl
      have HR := Lib.hid hr
      have HY := Lib.hid (spots_col hr hl)
      have HO := Lib.hid (own2_of_row hr.1 hl)
      have HCap := Lib.hid (row_cap hr.1)
      have hLm : m ≤ maxLen := by unfold maxLen; omega
      have HLm := Lib.hid hl
      clear hr hl hR
      rcases h3 : strB L with _ | _
      · have H3 := Lib.hid h3
        have HK := Lib.hid (HKX.out.trans h3)
        clear h3
        go_wp2_with fail
        refine (goodS_v _ _ _ L _ H3.out _ HY.out hLm).mono ?_
        rintro e w' ⟨rfl, rfl⟩
        have HE := Lib.hid (ss_no HK.out (col_start 125 2 HR.out.2))
        go_wp2_with fail
        go_ret2
        exact HE.out
      · have H3 := Lib.hid h3
        have HK := Lib.hid (HKX.out.trans h3)
        clear h3
        go_wp2_with fail
        refine (goodS_v _ _ _ L _ H3.out _ HY.out hLm).mono ?_
        rintro e w' ⟨rfl, rfl⟩
        have HE := Lib.hid (ss_yes HK.out HLL.out HLm.out HO.out HR.out.2 HCap.out)
        go_wp2_with fail
        go_ret2
        exact HE.out
end Go.Proofs.Ytdmnkmdlochogab
