/-
  The contract of spec.AddReading over this translation. Conditions: stated at the theorem.
-/
import Derived.Test.YtlggcfeclbcfaaaAdd
import Derived.Deep.DeepCutAuto
namespace Go.Proofs.Ytlggcfeclbcfaaa
open Go.RowKit

theorem part_of_has {w : World} {g : Nat} {t y : Int} (h : Has w g [.int .i64 t, .int .i64 y]) : Part w ⟨g, 0, none⟩ [(t, y)] := fun j u hu => by
  rcases j with _ | _ | j
  · exact h.at_ 0 u hu
  · rw [add_none]; exact h.at_ 1 u (by simpa [cells2] using hu)
  · simp [cells2] at hu
/-- What the three appends leave: the struct whose row is the new one. -/
def CutP (W2 : World) (id ze : Int) (nm : ByteArray) (L : List (Int × Int)) (A5 : Option Addr) (c5 : Nat) (wx : World) : Prop :=
  Has wx W2.heap.size [.int .i64 id, .string nm, .int .i64 ze, .slice A5 L.length c5] ∧ Own2 wx W2.heap.size wx.heap.size A5 L.length L ∧ L.length ≤ c5 ∧ Below W2.heap.size W2 wx
theorem cut_of {W2 X0 X : World} {id ze : Int} {nm : ByteArray} {L : List (Int × Int)} {A5 : Option Addr} {c5 : Nat} {u3 : Value} (h : CS X0 L (.slice A5 L.length c5) X) (hx : Has X W2.heap.size [.int .i64 id, .string nm, .int .i64 ze, u3]) (hb : Below W2.heap.size W2 X0) (hs : W2.heap.size < X0.heap.size) :
    Hid (CutP W2 id ze nm L A5 c5 (X.setCell ⟨W2.heap.size, 3, none⟩ (.slice A5 L.length c5))) :=
  Lib.hid ⟨hx.set 3 _, (((own2_of_row h.1 rfl).put ⟨W2.heap.size, 3, none⟩ (.slice A5 L.length c5) (.inl hs)).wide (Nat.le_of_lt hs) (by simp [World.setCell])), own_cap h.1, (bthen hb h.2 hb.size).setCell (p := ⟨W2.heap.size, 3, none⟩) (Nat.le_refl _) _⟩
set_option maxRecDepth 20000 in
set_option maxHeartbeats 3200000 in
theorem add_spec (id ze : Int) (nm : ByteArray) (b o c : Nat) (l : List (Int × Int)) (t y : Int) (w : World) (hs : Spots w w.heap.size (some ⟨b, o, none⟩) l.length l) (hm : l.length ≤ maxLen) (hn : nm.size ≤ maxLen) (hcap : l.length ≤ c) :
    Calls Try.prog 8 #[.agg #[.int .i64 id, .string nm, .int .i64 ze, .slice (some ⟨b, o, none⟩) l.length c], .agg #[.int .i64 t, .int .i64 y]] w (AdPost id ze nm l t y w) := by
  obtain ⟨i0, hi, hz0, hz1, hz2⟩ := info_parts infoReading3
  have HI := Lib.hid (And.intro hi (And.intro hz0 (And.intro hz1 hz2)))
  clear hi hz0 hz1 hz2
  obtain ⟨U, hU⟩ : ∃ U, U = w.alloc (.cells #[.int .i64 id, .string nm, .int .i64 ze, .slice (some ⟨b, o, none⟩) l.length c] 26) := ⟨_, rfl⟩
  obtain ⟨X, hX⟩ : ∃ X, X = U.alloc (.cells #[.int .i64 t, .int .i64 y] 28) := ⟨_, rfl⟩
  obtain ⟨V, hV⟩ : ∃ V, V = X.alloc (.cells #[.int .i64 0, .string ⟨#[]⟩, .int .i64 0, .slice none 0 0] 26) := ⟨_, rfl⟩
  have HU : Hid (Below w.heap.size w U ∧ Has U w.heap.size [.int .i64 id, .string nm, .int .i64 ze, .slice (some ⟨b, o, none⟩) l.length c] ∧ U.heap.size = w.heap.size + 1) := by rw [hU]; exact ⟨(box1 (Below.refl _ _)).1, (box1 (Below.refl _ _)).2, World.size_alloc _ _⟩
  have HX : Hid (Below U.heap.size U X ∧ Has X U.heap.size [.int .i64 t, .int .i64 y] ∧ X.heap.size = U.heap.size + 1) := by rw [hX]; exact ⟨(box1 (Below.refl _ _)).1, (box1 (Below.refl _ _)).2, World.size_alloc _ _⟩
  have HV : Hid (Below X.heap.size X V ∧ Has V X.heap.size [.int .i64 0, .string ⟨#[]⟩, .int .i64 0, .slice none 0 0]) := by rw [hV]; exact ⟨(box1 (Below.refl _ _)).1, (box1 (Below.refl _ _)).2⟩
  have HVU : Hid (V = ((w.alloc (.cells #[.int .i64 id, .string nm, .int .i64 ze, .slice (some ⟨b, o, none⟩) l.length c] 26)).alloc (.cells #[.int .i64 t, .int .i64 y] 28)).alloc (.cells #[.int .i64 0, .string ⟨#[]⟩, .int .i64 0, .slice none 0 0] 26)) := by rw [hV, hX, hU]; rfl
  have HWX := Lib.hid (bthen HU.out.1 HX.out.1 HU.out.1.size)
  have HBV := Lib.hid (bthen HWX.out HV.out.1 HWX.out.size)
  have HSV := Lib.hid (spots_more hs HBV.out)
  have HGV := Lib.hid ((HU.out.2.1.next HX.out.1).next HV.out.1)
  have HRV : Hid (Has V (w.heap.size + 1) [.int .i64 t, .int .i64 y]) := by have h := HX.out.2.1.next HV.out.1; rw [HU.out.2.2] at h; exact Lib.hid h
  have HZV : Hid (Has V (w.heap.size + 2) [.int .i64 0, .string ⟨#[]⟩, .int .i64 0, .slice none 0 0]) := by have h := HV.out.2; rw [HX.out.2.2, HU.out.2.2] at h; exact Lib.hid h
  clear hs hV hX hU HU HX HV
  rcases hg : gaugeB id nm ze l with _ | _
  · have HG := Lib.hid hg
    have HR : Hid (adK id ze nm l t y = false) := by unfold Hid adK; rw [hg]; rfl
    clear hg
    go_enter Try.func8, Try.ntmps8
    go_wp2_with fail
    rw [← HVU.out]
    refine (one_v _ _ _ _ _ _ l _ HG.out _ HSV.out hm hn).mono ?_
    rintro e w1 ⟨rfl, hb⟩
    have HN := Lib.hid (And.intro (bthen HBV.out hb HBV.out.size) (HZV.out.next hb))
    clear hb
    have z0 := HN.out.2.at_ 0 _ rfl
    have z1 := HN.out.2.at_ 1 _ rfl
    have z2 := HN.out.2.at_ 2 _ rfl
    have z3 := HN.out.2.at_ 3 _ rfl
    have zf0 := HN.out.2.free 0
    have zf1 := HN.out.2.free 1
    have zf2 := HN.out.2.free 2
    have zf3 := HN.out.2.free 3
    go_wp2_with fail
    refine bodyPost_ret (v := .tuple #[.agg #[.int .i64 0, .string ⟨#[]⟩, .int .i64 0, .slice none 0 0], .bool false]) (by simp [results, Try.results8, go_sem, z0, z1, z2, z3]) rfl (ad_no HR.out ?_)
    repeat (first | exact HN.out.1 | refine Below.setCell ?_ (by simp; try omega) _)
  have HG := Lib.hid hg
  have HGG := Lib.hid (good_of_gauge hg)
  have h15 := (good_of_gauge hg).2.2.2.1
  have HA := Lib.hid (asc_of_good (good_of_gauge hg).2.2.2.2)
  clear hg
  go_enter Try.func8, Try.ntmps8
  go_wp2_with fail
  rw [← HVU.out]
  refine (one_v _ _ _ _ _ _ l _ HG.out _ HSV.out hm hn).mono ?_
  rintro e w1 ⟨rfl, hb⟩
  have HB1 := Lib.hid (bthen HBV.out hb HBV.out.size)
  have HG1 := Lib.hid (HGV.out.next hb)
  have HR1 := Lib.hid (HRV.out.next hb)
  have HZ1 := Lib.hid (HZV.out.next hb)
  have HS1 := Lib.hid (spots_more HSV.out hb)
  clear hb
  have q3 : (l.length : Int) ≤ (c : Int) := by omega
  go_wp2_with fail
  go_loopw [6] (fun i wr => ∃ k : Nat, k ≤ l.length ∧ i = .int .i64 k ∧ Hid (∀ p, p < k → tmAt l p < t) ∧ Hid (Below w1.heap.size w1 wr)) (fun i _ => l.length - (intOf i).toNat)
  case atStart => exact ⟨0, Nat.zero_le _, rfl, Lib.hid fun p h => absurd h (by omega), Lib.hid (Below.refl _ _)⟩
  case round =>
    obtain ⟨k, hk, rfl, hP, hB⟩ := hrel
    obtain ⟨W0, rfl⟩ : ∃ W : World, W = wr := ⟨_, rfl⟩
    have HGW := Lib.hid (HG1.out.next hB.out)
    have HRW := Lib.hid (HR1.out.next hB.out)
    have HZW := Lib.hid (HZ1.out.next hB.out)
    have HSW := Lib.hid (spots_more HS1.out hB.out)
    have HBW := Lib.hid (bthen HB1.out hB.out HB1.out.size)
    have g3 := HGW.out.at_ 3 _ rfl
    have r0 := HRW.out.at_ 0 _ rfl
    by_cases hgo : k < l.length ∧ tmAt l k < t
    · obtain ⟨hlt, hgt⟩ := hgo
      obtain ⟨b', o', x, yy, hA', _, hl, c0, _⟩ := HSW.out.2 k hlt
      obtain ⟨rfl, rfl⟩ : b = b' ∧ o = o' := by injection hA' with h; injection h with h h'; exact ⟨h, h'⟩
      rw [tm_of hl] at hgt
      have HN : Hid (∀ p, p < k + 1 → tmAt l p < t) := Lib.hid fun p hp => by
        rcases Nat.lt_or_ge p k with h | h
        · exact hP.out p h
        · obtain rfl : p = k := by omega
          rw [tm_of hl]; exact hgt
      have hd : decide (x < t) = true := decide_eq_true hgt
      have hd2 : decide ((k : Int) < (l.length : Int)) = true := decide_eq_true (by omega)
      clear hA' hl hgt
      go_wp2_with fail
      have lc0 := lcell (g3)
      have lc1 := lcell (r0)
      have lc2 := lcell (c0)
      refine region_later (W := W0) (by kernel_rfl) (by kernel_rfl) (Below.refl _ _) ?_
      repeat (go_big_quiet_step (fail))
      refine wpQuiet_nil ?_
      intro W1 hW1
      have HL : Hid (Below W0.heap.size W0 W1) := by obtain ⟨x, rfl⟩ := hW1; exact Lib.hid x.below
      clear hW1 lc0 lc1 lc2
      have HT := Lib.hid (bthen hB.out HL.out hB.out.size)
      clear g3 r0 c0
      go_wp2_with fail
      go_roundw
      case rel => exact ⟨k + 1, by omega, by go_num, HN, HT⟩
      case measure => simp [intOf]; omega
    · have HLB : Hid (IsLb l t k) := Lib.hid ⟨hk, hP.out, fun p hp hpl => by
        have hkl : k < l.length := by omega
        have h1 : ¬ tmAt l k < t := fun h => hgo ⟨hkl, h⟩
        rcases Nat.lt_or_ge k p with h | h
        · have := HA.out k p h hpl
          omega
        · obtain rfl : p = k := by omega
          omega⟩
      by_cases hlt : k < l.length
      · have hge : ¬ tmAt l k < t := fun h => hgo ⟨hlt, h⟩
        obtain ⟨b', o', x, yy, hA', _, hl, c0, _⟩ := HSW.out.2 k hlt
        obtain ⟨rfl, rfl⟩ : b = b' ∧ o = o' := by injection hA' with h; injection h with h h'; exact ⟨h, h'⟩
        rw [tm_of hl] at hge
        have hd : decide (x < t) = false := decide_eq_false hge
        have hd2 : decide ((k : Int) < (l.length : Int)) = true := decide_eq_true (by omega)
        have HHX : Hid (hitB l t k = decide (x = t)) := by unfold Hid hitB; rw [tm_of hl]; simp [hlt]
        have hck : ¬ c = k := by omega
        have q1 : (k : Int) ≤ (c : Int) := by omega
        have q0 : (0 : Int) ≤ (k : Int) := by omega
        clear hA' hl hge hgo
        go_wp2_with fail
        have lc0 := lcell (g3)
        have lc1 := lcell (r0)
        have lc2 := lcell (c0)
        refine region_later (W := W0) (by kernel_rfl) (by kernel_rfl) (Below.refl _ _) ?_
        repeat (go_big_quiet_step (fail))
        refine wpQuiet_nil ?_
        intro W1 hW1
        have HL : Hid (Below W0.heap.size W0 W1) := by obtain ⟨x, rfl⟩ := hW1; exact Lib.hid x.below
        clear hW1 lc0 lc1 lc2
        have HT := Lib.hid (bthen hB.out HL.out hB.out.size)
        have g3' := cell_next HL.out g3
        have r0' := cell_next HL.out r0
        have c0' := cell_next HL.out c0
        have HS2 := Lib.hid (spots_more HSW.out HL.out)
        clear g3 r0 c0 HL
        go_wp2_with fail
        obtain ⟨n3, hn3⟩ : ∃ n3, n3 = l.length - k := ⟨_, rfl⟩
        obtain ⟨c3, hc3⟩ : ∃ c3, c3 = c - k := ⟨_, rfl⟩
        rw [← hn3, ← hc3]
        have hp3 : 0 < n3 := by omega
        have hp1 : (1 : Int) ≤ (n3 : Int) := by omega
        have hpc : n3 ≤ c3 := by omega
        have hpc1 : (n3 : Int) ≤ (c3 : Int) := by omega
        have HN3 := Lib.hid hn3
        have HC3 := Lib.hid hc3
        clear hn3 hc3
        have hpos : decide (0 < n3) = true := decide_eq_true hp3
        by_cases hxt : x = t
        · have HE : Hid (adE l t k = k + 1) := by unfold Hid adE; rw [HHX.out, decide_eq_true hxt]; rfl
          have hxb : (x == t) = true := by simpa using hxt
          clear hxt
          have lc0 := lcell (g3')
          have lc1 := lcell (r0')
          have lc2 := lcell (c0')
          refine region_later (W := W1) (by kernel_rfl) (by kernel_rfl) (Below.refl _ _) ?_
          repeat (go_big_quiet_step (fail))
          refine wpQuiet_nil ?_
          intro W2 hW1
          have HL : Hid (Below W1.heap.size W1 W2) := by obtain ⟨x, rfl⟩ := hW1; exact Lib.hid x.below
          clear hW1 lc0 lc1 lc2
          have HGX := Lib.hid (HG1.out.next (bthen HT.out HL.out HT.out.size))
          have HRX := Lib.hid (HR1.out.next (bthen HT.out HL.out HT.out.size))
          have HZX := Lib.hid (HZ1.out.next (bthen HT.out HL.out HT.out.size))
          have HBX2 := Lib.hid (bthen HB1.out (bthen HT.out HL.out HT.out.size) HB1.out.size)
          have HSX := Lib.hid (spots_more HS1.out (bthen HT.out HL.out HT.out.size))
          have g0 := HGX.out.at_ 0 _ rfl
          have g1 := HGX.out.at_ 1 _ rfl
          have g2 := HGX.out.at_ 2 _ rfl
          have g3 := HGX.out.at_ 3 _ rfl
          have hdl : (l.drop (k + 1)).length = n3 - 1 := by have := HN3.out; rw [List.length_drop]; omega
          clear g3' r0' c0' hp1
          by_cases hc1 : c3 = 1
          · obtain rfl : n3 = 1 := by omega
            subst hc1
            go_wp2_with fail
            obtain ⟨X0, hX0⟩ : ∃ X0, X0 = W2.alloc (.cells #[.int .i64 id, .string nm, .int .i64 ze, .slice (some ⟨b, o, none⟩) l.length c] 26) := ⟨_, rfl⟩
            have HBX : Hid (Below W2.heap.size W2 X0) := by rw [hX0]; exact Lib.hid (box1 (Below.refl _ _)).1
            have HXB : Hid (Has X0 W2.heap.size [.int .i64 id, .string nm, .int .i64 ze, .slice (some ⟨b, o, none⟩) l.length c]) := by rw [hX0]; exact Lib.hid (box1 (Below.refl _ _)).2
            have HWS := Lib.hid HXB.out.1
            rw [← hX0]
            clear hX0 g0 g1 g2 g3
            obtain ⟨O3, hO3⟩ : ∃ O3 : Addr, O3 = ⟨b, o + k * 2, none⟩ := ⟨_, rfl⟩
            obtain ⟨L3, hL3⟩ : ∃ L3, L3 = l.drop (k + 1) := ⟨_, rfl⟩
            rw [← hO3]
            have HADL : Hid (adR l t y = l.take k ++ [(t, y)] ++ L3) := by unfold Hid adR adL; rw [lb_is HLB.out, HE.out, hL3]
            have HPA := Lib.hid ((part_take (part_of_spots HSX.out) k).next HBX.out)
            have HP3 : Hid (Part X0 O3 L3) := Lib.hid (fun j u hu => by have hj := (List.getElem?_eq_some_iff.1 hu).1; rw [cells2_len, hL3, hdl] at hj; omega)
            have HL3 : Hid (L3.length = 0) := Lib.hid (by rw [hL3]; exact hdl)
            have HLT : Hid ((l.take k).length = k) := Lib.hid (by rw [List.length_take]; omega)
            have HB5 : Hid (([] : List (Int × Int)).length + k ≤ 100) := Lib.hid (by simp; omega)
            have HB8 : Hid (([] ++ l.take k : List (Int × Int)).length + 1 ≤ 100) := Lib.hid (by simp; omega)
            have HB10 : Hid (([] ++ l.take k ++ [(t, y)] : List (Int × Int)).length + 0 ≤ 100) := Lib.hid (by have := HN3.out; simp; omega)
            clear hO3 hL3 hdl
            go_cut [8] (fun p wx => p = .pointer (some ⟨W2.heap.size, 0, none⟩) ∧ ∃ (A5 : Option Addr) (c5 : Nat), Hid (CutP W2 id ze nm (adR l t y) A5 c5 wx))
            case first =>
              have lc0 := lcell ((HGX.out.next HBX.out).at_ 3 _ rfl)
              have lc1 := lcell ((HRX.out.next HBX.out).at_ 0 _ rfl)
              have lc2 := lcell ((HRX.out.next HBX.out).at_ 1 _ rfl)
              refine region_reads (W := X0) 11 7 [1, 2, 3, 4, 6, 9] (by kernel_rfl) (by kernel_rfl) rfl (Below.refl _ _) (fun d _ _ _ _ h => by cases d <;> exact h) ?_
              simp only [picks, List.getElem?_cons_succ, List.getElem?_cons_zero]
              repeat (go_big_quiet_step (fail))
              refine wpQuiet_nil ?_
              intro W3 hW1
              have HLX : Hid (Below X0.heap.size X0 W3) := by obtain ⟨x, rfl⟩ := hW1; exact Lib.hid x.below
              clear hW1 lc0 lc1 lc2
              refine wpAnyN_two (i := 0) (i' := 7) (by kernel_rfl) ?_ ?_
              · skip
                refine wpOp_step rfl (fun K hK => ?_)
                rw [if_pos (by rfl)]
                have HD1 : Hid (Below W3.heap.size W3 (W3.alloc (.cells #[] 28))) := Lib.hid (box1 (Below.refl _ _)).1
                have HB1 : Hid (Below X0.heap.size X0 (W3.alloc (.cells #[] 28))) := Lib.hid (HLX.out.alloc HLX.out.size _)
                have HZ1 : Hid ((W3.alloc (.cells #[] 28)).heap.size = W3.heap.size + 1) := Lib.hid (World.size_alloc _ _)
                have HC1 : Hid (CS X0 [] (.slice (some ⟨W3.heap.size, 0, none⟩) 0 0) (W3.alloc (.cells #[] 28))) := Lib.hid ⟨World.ownsRow_made W3 #[] 0 HLX.out.size (by unfold maxLen; omega) (by simp), HB1.out⟩
                go_simp
                refine hK _ _ ⟨⟨⟨_, HB1.out⟩, rfl⟩, ?_⟩
                clear hK K
                obtain ⟨X1, hX1⟩ : ∃ V, V = W3.alloc (.cells #[] 28) := ⟨_, rfl⟩
                rw [← hX1]
                rw [← hX1] at HD1 HB1 HZ1 HC1
                clear hX1
                refine wpAnyN_two (i := 5) (i' := 7) (by kernel_rfl) ?_ ?_
                · skip
                  refine wpOp_step rfl (fun K hK => ?_)
                  rw [if_pos (by rfl)]
                  refine wp_append_own _ _ _ 24 rfl X0.heap.size 28 i0 (.agg #[.int .i64 0, .int .i64 0]) 2 16 Try.underlying24 HI.out.1 HI.out.2.1 HI.out.2.2.1 HI.out.2.2.2 rfl (by decide) _ _ _ rfl HC1.out.1 ⟨b, o, none⟩ k c (cells2 (l.take k)) rfl (by rw [cells2_len, HLT.out]) (HPA.out.next HC1.out.2) (cells2_one _) (Nat.le_trans HB5.out (by unfold maxLen; decide)) (by have := HB5.out; omega) HC1.out.2.size (fun v2 X2 hown hgrow _ => ?_)
                  have HC2 : Hid (CS X0 ([] ++ (l.take k)) v2 X2) := Lib.hid (cs_step HC1.out (by rw [HLT.out]; exact hown) hgrow)
                  clear hown hgrow
                  refine hK _ _ ⟨⟨⟨_, HC2.out.2⟩, rfl⟩, ?_⟩
                  clear hK K
                  have HBx2 := Lib.hid HC2.out.2
                  refine wpAnyN_one (i := 7) (by kernel_rfl) ?_
                  refine wpOp_step rfl (fun K hK => ?_)
                  rw [if_pos (by rfl)]
                  have HD3 : Hid (Below X2.heap.size X2 (X2.alloc (.cells #[.int .i64 t, .int .i64 y] 28))) := Lib.hid (box1 (Below.refl _ _)).1
                  have HB3 : Hid (Below X0.heap.size X0 (X2.alloc (.cells #[.int .i64 t, .int .i64 y] 28))) := Lib.hid (HBx2.out.alloc HBx2.out.size _)
                  have HZ3 : Hid ((X2.alloc (.cells #[.int .i64 t, .int .i64 y] 28)).heap.size = X2.heap.size + 1) := Lib.hid (World.size_alloc _ _)
                  have HE3 : Hid (Has (X2.alloc (.cells #[.int .i64 t, .int .i64 y] 28)) X2.heap.size [.int .i64 t, .int .i64 y]) := Lib.hid (box1 (Below.refl _ _)).2
                  go_simp
                  refine hK _ _ ⟨⟨⟨_, HB3.out⟩, rfl⟩, ?_⟩
                  clear hK K
                  obtain ⟨X3, hX3⟩ : ∃ V, V = X2.alloc (.cells #[.int .i64 t, .int .i64 y] 28) := ⟨_, rfl⟩
                  rw [← hX3]
                  rw [← hX3] at HD3 HB3 HZ3 HE3
                  clear hX3
                  have HC3 : Hid (CS X0 ([] ++ (l.take k)) v2 X3) := Lib.hid ⟨own_below HC2.out.1 HD3.out, HB3.out⟩
                  refine wpAnyN_one (i := 8) (by kernel_rfl) ?_
                  refine wpOp_step rfl (fun K hK => ?_)
                  rw [if_pos (by rfl)]
                  refine wp_append_own _ _ _ 24 rfl X0.heap.size 28 i0 (.agg #[.int .i64 0, .int .i64 0]) 2 16 Try.underlying24 HI.out.1 HI.out.2.1 HI.out.2.2.1 HI.out.2.2.2 rfl (by decide) _ _ _ rfl HC3.out.1 ⟨X2.heap.size, 0, none⟩ 1 1 (cells2 [(t, y)]) rfl (cells2_len _) (part_of_has HE3.out) (cells2_one _) (Nat.le_trans HB8.out (by unfold maxLen; decide)) (by have := HB8.out; omega) HC3.out.2.size (fun v4 X4 hown hgrow _ => ?_)
                  have HC4 : Hid (CS X0 ([] ++ (l.take k) ++ [(t, y)]) v4 X4) := Lib.hid (cs_step HC3.out (by exact hown) hgrow)
                  clear hown hgrow
                  refine hK _ _ ⟨⟨⟨_, HC4.out.2⟩, rfl⟩, ?_⟩
                  clear hK K
                  refine wpAnyN_one (i := 10) (by kernel_rfl) ?_
                  refine wpOp_step rfl (fun K hK => ?_)
                  rw [if_pos (by rfl)]
                  refine wp_append_own _ _ _ 24 rfl X0.heap.size 28 i0 (.agg #[.int .i64 0, .int .i64 0]) 2 16 Try.underlying24 HI.out.1 HI.out.2.1 HI.out.2.2.1 HI.out.2.2.2 rfl (by decide) _ _ _ rfl HC4.out.1 O3 0 0 (cells2 L3) rfl (by rw [cells2_len, HL3.out]) (HP3.out.next HC4.out.2) (cells2_one _) (Nat.le_trans HB10.out (by unfold maxLen; decide)) (by have := HB10.out; omega) HC4.out.2.size (fun v5 X5 hown hgrow _ => ?_)
                  have HC5 : Hid (CS X0 ([] ++ (l.take k) ++ [(t, y)] ++ L3) v5 X5) := Lib.hid (cs_step HC4.out (by rw [HL3.out]; exact hown) hgrow)
                  clear hown hgrow
                  refine hK _ _ ⟨⟨⟨_, HC5.out.2⟩, rfl⟩, ?_⟩
                  clear hK K
                  refine wpAnyN_end rfl (by kernel_rfl) rfl ?_
                  simp only [List.drop_succ_cons, List.drop_zero]
                  have HCF : Hid (CS X0 (adR l t y) v5 X5) := Lib.hid (by rw [HADL.out]; exact HC5.out)
                  obtain ⟨A5, c5, rfl⟩ := own_slice HCF.out.1
                  have HXF := Lib.hid (HXB.out.next HCF.out.2)
                  have p3 := HXF.out.at_ 3 _ rfl
                  have pf3 := HXF.out.free 3
                  go_wp2_with fail
                  go_meet
                  exact ⟨rfl, A5, c5, cut_of HCF.out HXF.out HBX.out HWS.out⟩
                · skip
                  refine wpOp_step rfl (fun K hK => ?_)
                  rw [if_pos (by rfl)]
                  have HD2 : Hid (Below X1.heap.size X1 (X1.alloc (.cells #[.int .i64 t, .int .i64 y] 28))) := Lib.hid (box1 (Below.refl _ _)).1
                  have HB2 : Hid (Below X0.heap.size X0 (X1.alloc (.cells #[.int .i64 t, .int .i64 y] 28))) := Lib.hid (HB1.out.alloc HB1.out.size _)
                  have HZ2 : Hid ((X1.alloc (.cells #[.int .i64 t, .int .i64 y] 28)).heap.size = X1.heap.size + 1) := Lib.hid (World.size_alloc _ _)
                  have HE2 : Hid (Has (X1.alloc (.cells #[.int .i64 t, .int .i64 y] 28)) X1.heap.size [.int .i64 t, .int .i64 y]) := Lib.hid (box1 (Below.refl _ _)).2
                  go_simp
                  refine hK _ _ ⟨⟨⟨_, HB2.out⟩, rfl⟩, ?_⟩
                  clear hK K
                  obtain ⟨X2, hX2⟩ : ∃ V, V = X1.alloc (.cells #[.int .i64 t, .int .i64 y] 28) := ⟨_, rfl⟩
                  rw [← hX2]
                  rw [← hX2] at HD2 HB2 HZ2 HE2
                  clear hX2
                  have HC2 : Hid (CS X0 [] (.slice (some ⟨W3.heap.size, 0, none⟩) 0 0) X2) := Lib.hid ⟨own_below HC1.out.1 HD2.out, HB2.out⟩
                  refine wpAnyN_one (i := 5) (by kernel_rfl) ?_
                  refine wpOp_step rfl (fun K hK => ?_)
                  rw [if_pos (by rfl)]
                  refine wp_append_own _ _ _ 24 rfl X0.heap.size 28 i0 (.agg #[.int .i64 0, .int .i64 0]) 2 16 Try.underlying24 HI.out.1 HI.out.2.1 HI.out.2.2.1 HI.out.2.2.2 rfl (by decide) _ _ _ rfl HC2.out.1 ⟨b, o, none⟩ k c (cells2 (l.take k)) rfl (by rw [cells2_len, HLT.out]) (HPA.out.next HC2.out.2) (cells2_one _) (Nat.le_trans HB5.out (by unfold maxLen; decide)) (by have := HB5.out; omega) HC2.out.2.size (fun v3 X3 hown hgrow _ => ?_)
                  have HC3 : Hid (CS X0 ([] ++ (l.take k)) v3 X3) := Lib.hid (cs_step HC2.out (by rw [HLT.out]; exact hown) hgrow)
                  have HE3 := Lib.hid (has_grown HE2.out hgrow (fun q => by have q2 : X1.heap.size = W3.heap.size := Option.some.inj q; have q3 := HZ1.out; omega))
                  clear hown hgrow
                  refine hK _ _ ⟨⟨⟨_, HC3.out.2⟩, rfl⟩, ?_⟩
                  clear hK K
                  refine wpAnyN_one (i := 8) (by kernel_rfl) ?_
                  refine wpOp_step rfl (fun K hK => ?_)
                  rw [if_pos (by rfl)]
                  refine wp_append_own _ _ _ 24 rfl X0.heap.size 28 i0 (.agg #[.int .i64 0, .int .i64 0]) 2 16 Try.underlying24 HI.out.1 HI.out.2.1 HI.out.2.2.1 HI.out.2.2.2 rfl (by decide) _ _ _ rfl HC3.out.1 ⟨X1.heap.size, 0, none⟩ 1 1 (cells2 [(t, y)]) rfl (cells2_len _) (part_of_has HE3.out) (cells2_one _) (Nat.le_trans HB8.out (by unfold maxLen; decide)) (by have := HB8.out; omega) HC3.out.2.size (fun v4 X4 hown hgrow _ => ?_)
                  have HC4 : Hid (CS X0 ([] ++ (l.take k) ++ [(t, y)]) v4 X4) := Lib.hid (cs_step HC3.out (by exact hown) hgrow)
                  clear hown hgrow
                  refine hK _ _ ⟨⟨⟨_, HC4.out.2⟩, rfl⟩, ?_⟩
                  clear hK K
                  refine wpAnyN_one (i := 10) (by kernel_rfl) ?_
                  refine wpOp_step rfl (fun K hK => ?_)
                  rw [if_pos (by rfl)]
                  refine wp_append_own _ _ _ 24 rfl X0.heap.size 28 i0 (.agg #[.int .i64 0, .int .i64 0]) 2 16 Try.underlying24 HI.out.1 HI.out.2.1 HI.out.2.2.1 HI.out.2.2.2 rfl (by decide) _ _ _ rfl HC4.out.1 O3 0 0 (cells2 L3) rfl (by rw [cells2_len, HL3.out]) (HP3.out.next HC4.out.2) (cells2_one _) (Nat.le_trans HB10.out (by unfold maxLen; decide)) (by have := HB10.out; omega) HC4.out.2.size (fun v5 X5 hown hgrow _ => ?_)
                  have HC5 : Hid (CS X0 ([] ++ (l.take k) ++ [(t, y)] ++ L3) v5 X5) := Lib.hid (cs_step HC4.out (by rw [HL3.out]; exact hown) hgrow)
                  clear hown hgrow
                  refine hK _ _ ⟨⟨⟨_, HC5.out.2⟩, rfl⟩, ?_⟩
                  clear hK K
                  refine wpAnyN_end rfl (by kernel_rfl) rfl ?_
                  simp only [List.drop_succ_cons, List.drop_zero]
                  have HCF : Hid (CS X0 (adR l t y) v5 X5) := Lib.hid (by rw [HADL.out]; exact HC5.out)
                  obtain ⟨A5, c5, rfl⟩ := own_slice HCF.out.1
                  have HXF := Lib.hid (HXB.out.next HCF.out.2)
                  have p3 := HXF.out.at_ 3 _ rfl
                  have pf3 := HXF.out.free 3
                  go_wp2_with fail
                  go_meet
                  exact ⟨rfl, A5, c5, cut_of HCF.out HXF.out HBX.out HWS.out⟩
              · skip
                refine wpOp_step rfl (fun K hK => ?_)
                rw [if_pos (by rfl)]
                have HD1 : Hid (Below W3.heap.size W3 (W3.alloc (.cells #[.int .i64 t, .int .i64 y] 28))) := Lib.hid (box1 (Below.refl _ _)).1
                have HB1 : Hid (Below X0.heap.size X0 (W3.alloc (.cells #[.int .i64 t, .int .i64 y] 28))) := Lib.hid (HLX.out.alloc HLX.out.size _)
                have HZ1 : Hid ((W3.alloc (.cells #[.int .i64 t, .int .i64 y] 28)).heap.size = W3.heap.size + 1) := Lib.hid (World.size_alloc _ _)
                have HE1 : Hid (Has (W3.alloc (.cells #[.int .i64 t, .int .i64 y] 28)) W3.heap.size [.int .i64 t, .int .i64 y]) := Lib.hid (box1 (Below.refl _ _)).2
                go_simp
                refine hK _ _ ⟨⟨⟨_, HB1.out⟩, rfl⟩, ?_⟩
                clear hK K
                obtain ⟨X1, hX1⟩ : ∃ V, V = W3.alloc (.cells #[.int .i64 t, .int .i64 y] 28) := ⟨_, rfl⟩
                rw [← hX1]
                rw [← hX1] at HD1 HB1 HZ1 HE1
                clear hX1
                refine wpAnyN_one (i := 0) (by kernel_rfl) ?_
                refine wpOp_step rfl (fun K hK => ?_)
                rw [if_pos (by rfl)]
                have HD2 : Hid (Below X1.heap.size X1 (X1.alloc (.cells #[] 28))) := Lib.hid (box1 (Below.refl _ _)).1
                have HB2 : Hid (Below X0.heap.size X0 (X1.alloc (.cells #[] 28))) := Lib.hid (HB1.out.alloc HB1.out.size _)
                have HZ2 : Hid ((X1.alloc (.cells #[] 28)).heap.size = X1.heap.size + 1) := Lib.hid (World.size_alloc _ _)
                have HC2 : Hid (CS X0 [] (.slice (some ⟨X1.heap.size, 0, none⟩) 0 0) (X1.alloc (.cells #[] 28))) := Lib.hid ⟨World.ownsRow_made X1 #[] 0 HB1.out.size (by unfold maxLen; omega) (by simp), HB2.out⟩
                go_simp
                refine hK _ _ ⟨⟨⟨_, HB2.out⟩, rfl⟩, ?_⟩
                clear hK K
                obtain ⟨X2, hX2⟩ : ∃ V, V = X1.alloc (.cells #[] 28) := ⟨_, rfl⟩
                rw [← hX2]
                rw [← hX2] at HD2 HB2 HZ2 HC2
                clear hX2
                have HE2 := Lib.hid (HE1.out.next HD2.out)
                refine wpAnyN_one (i := 5) (by kernel_rfl) ?_
                refine wpOp_step rfl (fun K hK => ?_)
                rw [if_pos (by rfl)]
                refine wp_append_own _ _ _ 24 rfl X0.heap.size 28 i0 (.agg #[.int .i64 0, .int .i64 0]) 2 16 Try.underlying24 HI.out.1 HI.out.2.1 HI.out.2.2.1 HI.out.2.2.2 rfl (by decide) _ _ _ rfl HC2.out.1 ⟨b, o, none⟩ k c (cells2 (l.take k)) rfl (by rw [cells2_len, HLT.out]) (HPA.out.next HC2.out.2) (cells2_one _) (Nat.le_trans HB5.out (by unfold maxLen; decide)) (by have := HB5.out; omega) HC2.out.2.size (fun v3 X3 hown hgrow _ => ?_)
                have HC3 : Hid (CS X0 ([] ++ (l.take k)) v3 X3) := Lib.hid (cs_step HC2.out (by rw [HLT.out]; exact hown) hgrow)
                have HE3 := Lib.hid (has_grown HE2.out hgrow (fun q => by have q2 : W3.heap.size = X1.heap.size := Option.some.inj q; have q3 := HZ1.out; omega))
                clear hown hgrow
                refine hK _ _ ⟨⟨⟨_, HC3.out.2⟩, rfl⟩, ?_⟩
                clear hK K
                refine wpAnyN_one (i := 8) (by kernel_rfl) ?_
                refine wpOp_step rfl (fun K hK => ?_)
                rw [if_pos (by rfl)]
                refine wp_append_own _ _ _ 24 rfl X0.heap.size 28 i0 (.agg #[.int .i64 0, .int .i64 0]) 2 16 Try.underlying24 HI.out.1 HI.out.2.1 HI.out.2.2.1 HI.out.2.2.2 rfl (by decide) _ _ _ rfl HC3.out.1 ⟨W3.heap.size, 0, none⟩ 1 1 (cells2 [(t, y)]) rfl (cells2_len _) (part_of_has HE3.out) (cells2_one _) (Nat.le_trans HB8.out (by unfold maxLen; decide)) (by have := HB8.out; omega) HC3.out.2.size (fun v4 X4 hown hgrow _ => ?_)
                have HC4 : Hid (CS X0 ([] ++ (l.take k) ++ [(t, y)]) v4 X4) := Lib.hid (cs_step HC3.out (by exact hown) hgrow)
                clear hown hgrow
                refine hK _ _ ⟨⟨⟨_, HC4.out.2⟩, rfl⟩, ?_⟩
                clear hK K
                refine wpAnyN_one (i := 10) (by kernel_rfl) ?_
                refine wpOp_step rfl (fun K hK => ?_)
                rw [if_pos (by rfl)]
                refine wp_append_own _ _ _ 24 rfl X0.heap.size 28 i0 (.agg #[.int .i64 0, .int .i64 0]) 2 16 Try.underlying24 HI.out.1 HI.out.2.1 HI.out.2.2.1 HI.out.2.2.2 rfl (by decide) _ _ _ rfl HC4.out.1 O3 0 0 (cells2 L3) rfl (by rw [cells2_len, HL3.out]) (HP3.out.next HC4.out.2) (cells2_one _) (Nat.le_trans HB10.out (by unfold maxLen; decide)) (by have := HB10.out; omega) HC4.out.2.size (fun v5 X5 hown hgrow _ => ?_)
                have HC5 : Hid (CS X0 ([] ++ (l.take k) ++ [(t, y)] ++ L3) v5 X5) := Lib.hid (cs_step HC4.out (by rw [HL3.out]; exact hown) hgrow)
                clear hown hgrow
                refine hK _ _ ⟨⟨⟨_, HC5.out.2⟩, rfl⟩, ?_⟩
                clear hK K
                refine wpAnyN_end rfl (by kernel_rfl) rfl ?_
                simp only [List.drop_succ_cons, List.drop_zero]
                have HCF : Hid (CS X0 (adR l t y) v5 X5) := Lib.hid (by rw [HADL.out]; exact HC5.out)
                obtain ⟨A5, c5, rfl⟩ := own_slice HCF.out.1
                have HXF := Lib.hid (HXB.out.next HCF.out.2)
                have p3 := HXF.out.at_ 3 _ rfl
                have pf3 := HXF.out.free 3
                go_wp2_with fail
                go_meet
                exact ⟨rfl, A5, c5, cut_of HCF.out HXF.out HBX.out HWS.out⟩
            case rest =>
              obtain ⟨rfl, A5, c5, HW⟩ := hcut
              have HSY := Lib.hid (HW.out.2.1.spots (Nat.le_refl _))
              have HBZ := Lib.hid (bthen HBX2.out HW.out.2.2.2 HBX2.out.size)
              have HZY := Lib.hid (HZX.out.next HW.out.2.2.2)
              have HOY := Lib.hid (HW.out.2.1.wide (lo' := w.heap.size + 3) (by have := HZX.out.1; omega) (Nat.le_refl _))
              have HLN : Hid ((adR l t y).length ≤ maxLen) := by
                have h1 := HADL.out
                have h2 := HL3.out
                have h3 := HB10.out
                unfold Hid maxLen
                rw [h1, List.length_append, h2]
                exact Nat.le_trans h3 (by decide)
              have p0 := HW.out.1.at_ 0 _ rfl
              have p1 := HW.out.1.at_ 1 _ rfl
              have p2 := HW.out.1.at_ 2 _ rfl
              have p3 := HW.out.1.at_ 3 _ rfl
              rcases hk2 : gaugeB id nm ze (adR l t y) with _ | _
              · have HG2' := Lib.hid hk2
                have HR2' : Hid (adK id ze nm l t y = false) := by unfold Hid adK; rw [hk2, Bool.and_false]
                clear hk2
                go_wp2_with fail
                refine (one_v _ _ _ _ _ _ (adR l t y) _ HG2'.out _ HSY.out HLN.out hn).mono ?_
                rintro e w6 ⟨rfl, hb⟩
                have HN := Lib.hid (And.intro (bthen HBZ.out hb HBZ.out.size) (HZY.out.next hb))
                clear hb p0 p1 p2 p3
                have z0 := HN.out.2.at_ 0 _ rfl
                have z1 := HN.out.2.at_ 1 _ rfl
                have z2 := HN.out.2.at_ 2 _ rfl
                have z3 := HN.out.2.at_ 3 _ rfl
                have zf0 := HN.out.2.free 0
                have zf1 := HN.out.2.free 1
                have zf2 := HN.out.2.free 2
                have zf3 := HN.out.2.free 3
                go_wp2_with fail
                refine bodyPost_ret (v := .tuple #[.agg #[.int .i64 0, .string ⟨#[]⟩, .int .i64 0, .slice none 0 0], .bool false]) (by simp [results, Try.results8, go_sem, z0, z1, z2, z3]) rfl (ad_no HR2'.out ?_)
                repeat (first | exact HN.out.1 | refine Below.setCell ?_ (by simp; try omega) _)
              · have HG2' := Lib.hid hk2
                have HR2' : Hid (adK id ze nm l t y = true) := by unfold Hid adK; rw [HG.out, hk2]; rfl
                clear hk2
                go_wp2_with fail
                refine (one_v _ _ _ _ _ _ (adR l t y) _ HG2'.out _ HSY.out HLN.out hn).mono ?_
                rintro e w6 ⟨rfl, hb⟩
                have HN := Lib.hid (And.intro (bthen HBZ.out hb HBZ.out.size) (And.intro (HZY.out.next hb) (And.intro (HW.out.1.next hb) (And.intro (HOY.out.on hb (Nat.le_refl _)) hb.size))))
                clear hb p0 p1 p2 p3
                have z0 := HN.out.2.1.at_ 0 _ rfl
                have z1 := HN.out.2.1.at_ 1 _ rfl
                have z2 := HN.out.2.1.at_ 2 _ rfl
                have z3 := HN.out.2.1.at_ 3 _ rfl
                have zf0 := HN.out.2.1.free 0
                have zf1 := HN.out.2.1.free 1
                have zf2 := HN.out.2.1.free 2
                have zf3 := HN.out.2.1.free 3
                have p0 := HN.out.2.2.1.at_ 0 _ rfl
                have p1 := HN.out.2.2.1.at_ 1 _ rfl
                have p2 := HN.out.2.2.1.at_ 2 _ rfl
                have p3 := HN.out.2.2.1.at_ 3 _ rfl
                go_wp2_with fail
                refine bodyPost_ret (v := .tuple #[.agg #[.int .i64 id, .string nm, .int .i64 ze, .slice A5 (adR l t y).length c5], .bool true]) (by simp [results, Try.results8, go_sem, z0, z1, z2, z3]) rfl (ad_yes HR2'.out ?_ HW.out.2.2.1 ?_)
                · refine ((((HN.out.2.2.2.1.put _ _ ?_).put _ _ ?_).put _ _ ?_).put _ _ ?_).wide ?_ ?_
                  all_goals (try simp [World.setCell])
                  all_goals (have := HN.out.2.2.2.2; try omega)
                · repeat (first | exact HN.out.1 | refine Below.setCell ?_ (by simp; try omega) _)
          · have hpc2 : (1 : Int) ≤ (n3 : Int) := by omega
            go_wp2_with fail
            obtain ⟨X0, hX0⟩ : ∃ X0, X0 = W2.alloc (.cells #[.int .i64 id, .string nm, .int .i64 ze, .slice (some ⟨b, o, none⟩) l.length c] 26) := ⟨_, rfl⟩
            have HBX : Hid (Below W2.heap.size W2 X0) := by rw [hX0]; exact Lib.hid (box1 (Below.refl _ _)).1
            have HXB : Hid (Has X0 W2.heap.size [.int .i64 id, .string nm, .int .i64 ze, .slice (some ⟨b, o, none⟩) l.length c]) := by rw [hX0]; exact Lib.hid (box1 (Below.refl _ _)).2
            have HWS := Lib.hid HXB.out.1
            rw [← hX0]
            clear hX0 g0 g1 g2 g3
            obtain ⟨O3, hO3⟩ : ∃ O3 : Addr, O3 = ⟨b, o + k * 2 + 2, none⟩ := ⟨_, rfl⟩
            obtain ⟨N3, hN3⟩ : ∃ N3, N3 = n3 - 1 := ⟨_, rfl⟩
            obtain ⟨C3, hC3⟩ : ∃ C3, C3 = c3 - 1 := ⟨_, rfl⟩
            obtain ⟨L3, hL3⟩ : ∃ L3, L3 = l.drop (k + 1) := ⟨_, rfl⟩
            rw [← hO3, ← hN3, ← hC3]
            have HADL : Hid (adR l t y = l.take k ++ [(t, y)] ++ L3) := by unfold Hid adR adL; rw [lb_is HLB.out, HE.out, hL3]
            have HPA := Lib.hid ((part_take (part_of_spots HSX.out) k).next HBX.out)
            have HP3 : Hid (Part X0 O3 L3) := Lib.hid (by rw [hO3, hL3, show o + k * 2 + 2 = o + (k + 1) * 2 by omega]; exact (part_drop (part_of_spots HSX.out) (by omega)).next HBX.out)
            have HL3 : Hid (L3.length = N3) := Lib.hid (by rw [hL3, hN3]; exact hdl)
            have HLT : Hid ((l.take k).length = k) := Lib.hid (by rw [List.length_take]; omega)
            have HB5 : Hid (([] : List (Int × Int)).length + k ≤ 100) := Lib.hid (by simp; omega)
            have HB8 : Hid (([] ++ l.take k : List (Int × Int)).length + 1 ≤ 100) := Lib.hid (by simp; omega)
            have HB10 : Hid (([] ++ l.take k ++ [(t, y)] : List (Int × Int)).length + N3 ≤ 100) := Lib.hid (by have := HN3.out; simp; omega)
            clear hO3 hN3 hC3 hL3 hdl
            go_cut [8] (fun p wx => p = .pointer (some ⟨W2.heap.size, 0, none⟩) ∧ ∃ (A5 : Option Addr) (c5 : Nat), Hid (CutP W2 id ze nm (adR l t y) A5 c5 wx))
            case first =>
              have lc0 := lcell ((HGX.out.next HBX.out).at_ 3 _ rfl)
              have lc1 := lcell ((HRX.out.next HBX.out).at_ 0 _ rfl)
              have lc2 := lcell ((HRX.out.next HBX.out).at_ 1 _ rfl)
              refine region_reads (W := X0) 11 7 [1, 2, 3, 4, 6, 9] (by kernel_rfl) (by kernel_rfl) rfl (Below.refl _ _) (fun d _ _ _ _ h => by cases d <;> exact h) ?_
              simp only [picks, List.getElem?_cons_succ, List.getElem?_cons_zero]
              repeat (go_big_quiet_step (fail))
              refine wpQuiet_nil ?_
              intro W3 hW1
              have HLX : Hid (Below X0.heap.size X0 W3) := by obtain ⟨x, rfl⟩ := hW1; exact Lib.hid x.below
              clear hW1 lc0 lc1 lc2
              refine wpAnyN_two (i := 0) (i' := 7) (by kernel_rfl) ?_ ?_
              · skip
                refine wpOp_step rfl (fun K hK => ?_)
                rw [if_pos (by rfl)]
                have HD1 : Hid (Below W3.heap.size W3 (W3.alloc (.cells #[] 28))) := Lib.hid (box1 (Below.refl _ _)).1
                have HB1 : Hid (Below X0.heap.size X0 (W3.alloc (.cells #[] 28))) := Lib.hid (HLX.out.alloc HLX.out.size _)
                have HZ1 : Hid ((W3.alloc (.cells #[] 28)).heap.size = W3.heap.size + 1) := Lib.hid (World.size_alloc _ _)
                have HC1 : Hid (CS X0 [] (.slice (some ⟨W3.heap.size, 0, none⟩) 0 0) (W3.alloc (.cells #[] 28))) := Lib.hid ⟨World.ownsRow_made W3 #[] 0 HLX.out.size (by unfold maxLen; omega) (by simp), HB1.out⟩
                go_simp
                refine hK _ _ ⟨⟨⟨_, HB1.out⟩, rfl⟩, ?_⟩
                clear hK K
                obtain ⟨X1, hX1⟩ : ∃ V, V = W3.alloc (.cells #[] 28) := ⟨_, rfl⟩
                rw [← hX1]
                rw [← hX1] at HD1 HB1 HZ1 HC1
                clear hX1
                refine wpAnyN_two (i := 5) (i' := 7) (by kernel_rfl) ?_ ?_
                · skip
                  refine wpOp_step rfl (fun K hK => ?_)
                  rw [if_pos (by rfl)]
                  refine wp_append_own _ _ _ 24 rfl X0.heap.size 28 i0 (.agg #[.int .i64 0, .int .i64 0]) 2 16 Try.underlying24 HI.out.1 HI.out.2.1 HI.out.2.2.1 HI.out.2.2.2 rfl (by decide) _ _ _ rfl HC1.out.1 ⟨b, o, none⟩ k c (cells2 (l.take k)) rfl (by rw [cells2_len, HLT.out]) (HPA.out.next HC1.out.2) (cells2_one _) (Nat.le_trans HB5.out (by unfold maxLen; decide)) (by have := HB5.out; omega) HC1.out.2.size (fun v2 X2 hown hgrow _ => ?_)
                  have HC2 : Hid (CS X0 ([] ++ (l.take k)) v2 X2) := Lib.hid (cs_step HC1.out (by rw [HLT.out]; exact hown) hgrow)
                  clear hown hgrow
                  refine hK _ _ ⟨⟨⟨_, HC2.out.2⟩, rfl⟩, ?_⟩
                  clear hK K
                  have HBx2 := Lib.hid HC2.out.2
                  refine wpAnyN_one (i := 7) (by kernel_rfl) ?_
                  refine wpOp_step rfl (fun K hK => ?_)
                  rw [if_pos (by rfl)]
                  have HD3 : Hid (Below X2.heap.size X2 (X2.alloc (.cells #[.int .i64 t, .int .i64 y] 28))) := Lib.hid (box1 (Below.refl _ _)).1
                  have HB3 : Hid (Below X0.heap.size X0 (X2.alloc (.cells #[.int .i64 t, .int .i64 y] 28))) := Lib.hid (HBx2.out.alloc HBx2.out.size _)
                  have HZ3 : Hid ((X2.alloc (.cells #[.int .i64 t, .int .i64 y] 28)).heap.size = X2.heap.size + 1) := Lib.hid (World.size_alloc _ _)
                  have HE3 : Hid (Has (X2.alloc (.cells #[.int .i64 t, .int .i64 y] 28)) X2.heap.size [.int .i64 t, .int .i64 y]) := Lib.hid (box1 (Below.refl _ _)).2
                  go_simp
                  refine hK _ _ ⟨⟨⟨_, HB3.out⟩, rfl⟩, ?_⟩
                  clear hK K
                  obtain ⟨X3, hX3⟩ : ∃ V, V = X2.alloc (.cells #[.int .i64 t, .int .i64 y] 28) := ⟨_, rfl⟩
                  rw [← hX3]
                  rw [← hX3] at HD3 HB3 HZ3 HE3
                  clear hX3
                  have HC3 : Hid (CS X0 ([] ++ (l.take k)) v2 X3) := Lib.hid ⟨own_below HC2.out.1 HD3.out, HB3.out⟩
                  refine wpAnyN_one (i := 8) (by kernel_rfl) ?_
                  refine wpOp_step rfl (fun K hK => ?_)
                  rw [if_pos (by rfl)]
                  refine wp_append_own _ _ _ 24 rfl X0.heap.size 28 i0 (.agg #[.int .i64 0, .int .i64 0]) 2 16 Try.underlying24 HI.out.1 HI.out.2.1 HI.out.2.2.1 HI.out.2.2.2 rfl (by decide) _ _ _ rfl HC3.out.1 ⟨X2.heap.size, 0, none⟩ 1 1 (cells2 [(t, y)]) rfl (cells2_len _) (part_of_has HE3.out) (cells2_one _) (Nat.le_trans HB8.out (by unfold maxLen; decide)) (by have := HB8.out; omega) HC3.out.2.size (fun v4 X4 hown hgrow _ => ?_)
                  have HC4 : Hid (CS X0 ([] ++ (l.take k) ++ [(t, y)]) v4 X4) := Lib.hid (cs_step HC3.out (by exact hown) hgrow)
                  clear hown hgrow
                  refine hK _ _ ⟨⟨⟨_, HC4.out.2⟩, rfl⟩, ?_⟩
                  clear hK K
                  refine wpAnyN_one (i := 10) (by kernel_rfl) ?_
                  refine wpOp_step rfl (fun K hK => ?_)
                  rw [if_pos (by rfl)]
                  refine wp_append_own _ _ _ 24 rfl X0.heap.size 28 i0 (.agg #[.int .i64 0, .int .i64 0]) 2 16 Try.underlying24 HI.out.1 HI.out.2.1 HI.out.2.2.1 HI.out.2.2.2 rfl (by decide) _ _ _ rfl HC4.out.1 O3 N3 C3 (cells2 L3) rfl (by rw [cells2_len, HL3.out]) (HP3.out.next HC4.out.2) (cells2_one _) (Nat.le_trans HB10.out (by unfold maxLen; decide)) (by have := HB10.out; omega) HC4.out.2.size (fun v5 X5 hown hgrow _ => ?_)
                  have HC5 : Hid (CS X0 ([] ++ (l.take k) ++ [(t, y)] ++ L3) v5 X5) := Lib.hid (cs_step HC4.out (by rw [HL3.out]; exact hown) hgrow)
                  clear hown hgrow
                  refine hK _ _ ⟨⟨⟨_, HC5.out.2⟩, rfl⟩, ?_⟩
                  clear hK K
                  refine wpAnyN_end rfl (by kernel_rfl) rfl ?_
                  simp only [List.drop_succ_cons, List.drop_zero]
                  have HCF : Hid (CS X0 (adR l t y) v5 X5) := Lib.hid (by rw [HADL.out]; exact HC5.out)
                  obtain ⟨A5, c5, rfl⟩ := own_slice HCF.out.1
                  have HXF := Lib.hid (HXB.out.next HCF.out.2)
                  have p3 := HXF.out.at_ 3 _ rfl
                  have pf3 := HXF.out.free 3
                  go_wp2_with fail
                  go_meet
                  exact ⟨rfl, A5, c5, cut_of HCF.out HXF.out HBX.out HWS.out⟩
                · skip
                  refine wpOp_step rfl (fun K hK => ?_)
                  rw [if_pos (by rfl)]
                  have HD2 : Hid (Below X1.heap.size X1 (X1.alloc (.cells #[.int .i64 t, .int .i64 y] 28))) := Lib.hid (box1 (Below.refl _ _)).1
                  have HB2 : Hid (Below X0.heap.size X0 (X1.alloc (.cells #[.int .i64 t, .int .i64 y] 28))) := Lib.hid (HB1.out.alloc HB1.out.size _)
                  have HZ2 : Hid ((X1.alloc (.cells #[.int .i64 t, .int .i64 y] 28)).heap.size = X1.heap.size + 1) := Lib.hid (World.size_alloc _ _)
                  have HE2 : Hid (Has (X1.alloc (.cells #[.int .i64 t, .int .i64 y] 28)) X1.heap.size [.int .i64 t, .int .i64 y]) := Lib.hid (box1 (Below.refl _ _)).2
                  go_simp
                  refine hK _ _ ⟨⟨⟨_, HB2.out⟩, rfl⟩, ?_⟩
                  clear hK K
                  obtain ⟨X2, hX2⟩ : ∃ V, V = X1.alloc (.cells #[.int .i64 t, .int .i64 y] 28) := ⟨_, rfl⟩
                  rw [← hX2]
                  rw [← hX2] at HD2 HB2 HZ2 HE2
                  clear hX2
                  have HC2 : Hid (CS X0 [] (.slice (some ⟨W3.heap.size, 0, none⟩) 0 0) X2) := Lib.hid ⟨own_below HC1.out.1 HD2.out, HB2.out⟩
                  refine wpAnyN_one (i := 5) (by kernel_rfl) ?_
                  refine wpOp_step rfl (fun K hK => ?_)
                  rw [if_pos (by rfl)]
                  refine wp_append_own _ _ _ 24 rfl X0.heap.size 28 i0 (.agg #[.int .i64 0, .int .i64 0]) 2 16 Try.underlying24 HI.out.1 HI.out.2.1 HI.out.2.2.1 HI.out.2.2.2 rfl (by decide) _ _ _ rfl HC2.out.1 ⟨b, o, none⟩ k c (cells2 (l.take k)) rfl (by rw [cells2_len, HLT.out]) (HPA.out.next HC2.out.2) (cells2_one _) (Nat.le_trans HB5.out (by unfold maxLen; decide)) (by have := HB5.out; omega) HC2.out.2.size (fun v3 X3 hown hgrow _ => ?_)
                  have HC3 : Hid (CS X0 ([] ++ (l.take k)) v3 X3) := Lib.hid (cs_step HC2.out (by rw [HLT.out]; exact hown) hgrow)
                  have HE3 := Lib.hid (has_grown HE2.out hgrow (fun q => by have q2 : X1.heap.size = W3.heap.size := Option.some.inj q; have q3 := HZ1.out; omega))
                  clear hown hgrow
                  refine hK _ _ ⟨⟨⟨_, HC3.out.2⟩, rfl⟩, ?_⟩
                  clear hK K
                  refine wpAnyN_one (i := 8) (by kernel_rfl) ?_
                  refine wpOp_step rfl (fun K hK => ?_)
                  rw [if_pos (by rfl)]
                  refine wp_append_own _ _ _ 24 rfl X0.heap.size 28 i0 (.agg #[.int .i64 0, .int .i64 0]) 2 16 Try.underlying24 HI.out.1 HI.out.2.1 HI.out.2.2.1 HI.out.2.2.2 rfl (by decide) _ _ _ rfl HC3.out.1 ⟨X1.heap.size, 0, none⟩ 1 1 (cells2 [(t, y)]) rfl (cells2_len _) (part_of_has HE3.out) (cells2_one _) (Nat.le_trans HB8.out (by unfold maxLen; decide)) (by have := HB8.out; omega) HC3.out.2.size (fun v4 X4 hown hgrow _ => ?_)
                  have HC4 : Hid (CS X0 ([] ++ (l.take k) ++ [(t, y)]) v4 X4) := Lib.hid (cs_step HC3.out (by exact hown) hgrow)
                  clear hown hgrow
                  refine hK _ _ ⟨⟨⟨_, HC4.out.2⟩, rfl⟩, ?_⟩
                  clear hK K
                  refine wpAnyN_one (i := 10) (by kernel_rfl) ?_
                  refine wpOp_step rfl (fun K hK => ?_)
                  rw [if_pos (by rfl)]
                  refine wp_append_own _ _ _ 24 rfl X0.heap.size 28 i0 (.agg #[.int .i64 0, .int .i64 0]) 2 16 Try.underlying24 HI.out.1 HI.out.2.1 HI.out.2.2.1 HI.out.2.2.2 rfl (by decide) _ _ _ rfl HC4.out.1 O3 N3 C3 (cells2 L3) rfl (by rw [cells2_len, HL3.out]) (HP3.out.next HC4.out.2) (cells2_one _) (Nat.le_trans HB10.out (by unfold maxLen; decide)) (by have := HB10.out; omega) HC4.out.2.size (fun v5 X5 hown hgrow _ => ?_)
                  have HC5 : Hid (CS X0 ([] ++ (l.take k) ++ [(t, y)] ++ L3) v5 X5) := Lib.hid (cs_step HC4.out (by rw [HL3.out]; exact hown) hgrow)
                  clear hown hgrow
                  refine hK _ _ ⟨⟨⟨_, HC5.out.2⟩, rfl⟩, ?_⟩
                  clear hK K
                  refine wpAnyN_end rfl (by kernel_rfl) rfl ?_
                  simp only [List.drop_succ_cons, List.drop_zero]
                  have HCF : Hid (CS X0 (adR l t y) v5 X5) := Lib.hid (by rw [HADL.out]; exact HC5.out)
                  obtain ⟨A5, c5, rfl⟩ := own_slice HCF.out.1
                  have HXF := Lib.hid (HXB.out.next HCF.out.2)
                  have p3 := HXF.out.at_ 3 _ rfl
                  have pf3 := HXF.out.free 3
                  go_wp2_with fail
                  go_meet
                  exact ⟨rfl, A5, c5, cut_of HCF.out HXF.out HBX.out HWS.out⟩
              · skip
                refine wpOp_step rfl (fun K hK => ?_)
                rw [if_pos (by rfl)]
                have HD1 : Hid (Below W3.heap.size W3 (W3.alloc (.cells #[.int .i64 t, .int .i64 y] 28))) := Lib.hid (box1 (Below.refl _ _)).1
                have HB1 : Hid (Below X0.heap.size X0 (W3.alloc (.cells #[.int .i64 t, .int .i64 y] 28))) := Lib.hid (HLX.out.alloc HLX.out.size _)
                have HZ1 : Hid ((W3.alloc (.cells #[.int .i64 t, .int .i64 y] 28)).heap.size = W3.heap.size + 1) := Lib.hid (World.size_alloc _ _)
                have HE1 : Hid (Has (W3.alloc (.cells #[.int .i64 t, .int .i64 y] 28)) W3.heap.size [.int .i64 t, .int .i64 y]) := Lib.hid (box1 (Below.refl _ _)).2
                go_simp
                refine hK _ _ ⟨⟨⟨_, HB1.out⟩, rfl⟩, ?_⟩
                clear hK K
                obtain ⟨X1, hX1⟩ : ∃ V, V = W3.alloc (.cells #[.int .i64 t, .int .i64 y] 28) := ⟨_, rfl⟩
                rw [← hX1]
                rw [← hX1] at HD1 HB1 HZ1 HE1
                clear hX1
                refine wpAnyN_one (i := 0) (by kernel_rfl) ?_
                refine wpOp_step rfl (fun K hK => ?_)
                rw [if_pos (by rfl)]
                have HD2 : Hid (Below X1.heap.size X1 (X1.alloc (.cells #[] 28))) := Lib.hid (box1 (Below.refl _ _)).1
                have HB2 : Hid (Below X0.heap.size X0 (X1.alloc (.cells #[] 28))) := Lib.hid (HB1.out.alloc HB1.out.size _)
                have HZ2 : Hid ((X1.alloc (.cells #[] 28)).heap.size = X1.heap.size + 1) := Lib.hid (World.size_alloc _ _)
                have HC2 : Hid (CS X0 [] (.slice (some ⟨X1.heap.size, 0, none⟩) 0 0) (X1.alloc (.cells #[] 28))) := Lib.hid ⟨World.ownsRow_made X1 #[] 0 HB1.out.size (by unfold maxLen; omega) (by simp), HB2.out⟩
                go_simp
                refine hK _ _ ⟨⟨⟨_, HB2.out⟩, rfl⟩, ?_⟩
                clear hK K
                obtain ⟨X2, hX2⟩ : ∃ V, V = X1.alloc (.cells #[] 28) := ⟨_, rfl⟩
                rw [← hX2]
                rw [← hX2] at HD2 HB2 HZ2 HC2
                clear hX2
                have HE2 := Lib.hid (HE1.out.next HD2.out)
                refine wpAnyN_one (i := 5) (by kernel_rfl) ?_
                refine wpOp_step rfl (fun K hK => ?_)
                rw [if_pos (by rfl)]
                refine wp_append_own _ _ _ 24 rfl X0.heap.size 28 i0 (.agg #[.int .i64 0, .int .i64 0]) 2 16 Try.underlying24 HI.out.1 HI.out.2.1 HI.out.2.2.1 HI.out.2.2.2 rfl (by decide) _ _ _ rfl HC2.out.1 ⟨b, o, none⟩ k c (cells2 (l.take k)) rfl (by rw [cells2_len, HLT.out]) (HPA.out.next HC2.out.2) (cells2_one _) (Nat.le_trans HB5.out (by unfold maxLen; decide)) (by have := HB5.out; omega) HC2.out.2.size (fun v3 X3 hown hgrow _ => ?_)
                have HC3 : Hid (CS X0 ([] ++ (l.take k)) v3 X3) := Lib.hid (cs_step HC2.out (by rw [HLT.out]; exact hown) hgrow)
                have HE3 := Lib.hid (has_grown HE2.out hgrow (fun q => by have q2 : W3.heap.size = X1.heap.size := Option.some.inj q; have q3 := HZ1.out; omega))
                clear hown hgrow
                refine hK _ _ ⟨⟨⟨_, HC3.out.2⟩, rfl⟩, ?_⟩
                clear hK K
                refine wpAnyN_one (i := 8) (by kernel_rfl) ?_
                refine wpOp_step rfl (fun K hK => ?_)
                rw [if_pos (by rfl)]
                refine wp_append_own _ _ _ 24 rfl X0.heap.size 28 i0 (.agg #[.int .i64 0, .int .i64 0]) 2 16 Try.underlying24 HI.out.1 HI.out.2.1 HI.out.2.2.1 HI.out.2.2.2 rfl (by decide) _ _ _ rfl HC3.out.1 ⟨W3.heap.size, 0, none⟩ 1 1 (cells2 [(t, y)]) rfl (cells2_len _) (part_of_has HE3.out) (cells2_one _) (Nat.le_trans HB8.out (by unfold maxLen; decide)) (by have := HB8.out; omega) HC3.out.2.size (fun v4 X4 hown hgrow _ => ?_)
                have HC4 : Hid (CS X0 ([] ++ (l.take k) ++ [(t, y)]) v4 X4) := Lib.hid (cs_step HC3.out (by exact hown) hgrow)
                clear hown hgrow
                refine hK _ _ ⟨⟨⟨_, HC4.out.2⟩, rfl⟩, ?_⟩
                clear hK K
                refine wpAnyN_one (i := 10) (by kernel_rfl) ?_
                refine wpOp_step rfl (fun K hK => ?_)
                rw [if_pos (by rfl)]
                refine wp_append_own _ _ _ 24 rfl X0.heap.size 28 i0 (.agg #[.int .i64 0, .int .i64 0]) 2 16 Try.underlying24 HI.out.1 HI.out.2.1 HI.out.2.2.1 HI.out.2.2.2 rfl (by decide) _ _ _ rfl HC4.out.1 O3 N3 C3 (cells2 L3) rfl (by rw [cells2_len, HL3.out]) (HP3.out.next HC4.out.2) (cells2_one _) (Nat.le_trans HB10.out (by unfold maxLen; decide)) (by have := HB10.out; omega) HC4.out.2.size (fun v5 X5 hown hgrow _ => ?_)
                have HC5 : Hid (CS X0 ([] ++ (l.take k) ++ [(t, y)] ++ L3) v5 X5) := Lib.hid (cs_step HC4.out (by rw [HL3.out]; exact hown) hgrow)
                clear hown hgrow
                refine hK _ _ ⟨⟨⟨_, HC5.out.2⟩, rfl⟩, ?_⟩
                clear hK K
                refine wpAnyN_end rfl (by kernel_rfl) rfl ?_
                simp only [List.drop_succ_cons, List.drop_zero]
                have HCF : Hid (CS X0 (adR l t y) v5 X5) := Lib.hid (by rw [HADL.out]; exact HC5.out)
                obtain ⟨A5, c5, rfl⟩ := own_slice HCF.out.1
                have HXF := Lib.hid (HXB.out.next HCF.out.2)
                have p3 := HXF.out.at_ 3 _ rfl
                have pf3 := HXF.out.free 3
                go_wp2_with fail
                go_meet
                exact ⟨rfl, A5, c5, cut_of HCF.out HXF.out HBX.out HWS.out⟩
            case rest =>
              obtain ⟨rfl, A5, c5, HW⟩ := hcut
              have HSY := Lib.hid (HW.out.2.1.spots (Nat.le_refl _))
              have HBZ := Lib.hid (bthen HBX2.out HW.out.2.2.2 HBX2.out.size)
              have HZY := Lib.hid (HZX.out.next HW.out.2.2.2)
              have HOY := Lib.hid (HW.out.2.1.wide (lo' := w.heap.size + 3) (by have := HZX.out.1; omega) (Nat.le_refl _))
              have HLN : Hid ((adR l t y).length ≤ maxLen) := by
                have h1 := HADL.out
                have h2 := HL3.out
                have h3 := HB10.out
                unfold Hid maxLen
                rw [h1, List.length_append, h2]
                exact Nat.le_trans h3 (by decide)
              have p0 := HW.out.1.at_ 0 _ rfl
              have p1 := HW.out.1.at_ 1 _ rfl
              have p2 := HW.out.1.at_ 2 _ rfl
              have p3 := HW.out.1.at_ 3 _ rfl
              rcases hk2 : gaugeB id nm ze (adR l t y) with _ | _
              · have HG2' := Lib.hid hk2
                have HR2' : Hid (adK id ze nm l t y = false) := by unfold Hid adK; rw [hk2, Bool.and_false]
                clear hk2
                go_wp2_with fail
                refine (one_v _ _ _ _ _ _ (adR l t y) _ HG2'.out _ HSY.out HLN.out hn).mono ?_
                rintro e w6 ⟨rfl, hb⟩
                have HN := Lib.hid (And.intro (bthen HBZ.out hb HBZ.out.size) (HZY.out.next hb))
                clear hb p0 p1 p2 p3
                have z0 := HN.out.2.at_ 0 _ rfl
                have z1 := HN.out.2.at_ 1 _ rfl
                have z2 := HN.out.2.at_ 2 _ rfl
                have z3 := HN.out.2.at_ 3 _ rfl
                have zf0 := HN.out.2.free 0
                have zf1 := HN.out.2.free 1
                have zf2 := HN.out.2.free 2
                have zf3 := HN.out.2.free 3
                go_wp2_with fail
                refine bodyPost_ret (v := .tuple #[.agg #[.int .i64 0, .string ⟨#[]⟩, .int .i64 0, .slice none 0 0], .bool false]) (by simp [results, Try.results8, go_sem, z0, z1, z2, z3]) rfl (ad_no HR2'.out ?_)
                repeat (first | exact HN.out.1 | refine Below.setCell ?_ (by simp; try omega) _)
              · have HG2' := Lib.hid hk2
                have HR2' : Hid (adK id ze nm l t y = true) := by unfold Hid adK; rw [HG.out, hk2]; rfl
                clear hk2
                go_wp2_with fail
                refine (one_v _ _ _ _ _ _ (adR l t y) _ HG2'.out _ HSY.out HLN.out hn).mono ?_
                rintro e w6 ⟨rfl, hb⟩
                have HN := Lib.hid (And.intro (bthen HBZ.out hb HBZ.out.size) (And.intro (HZY.out.next hb) (And.intro (HW.out.1.next hb) (And.intro (HOY.out.on hb (Nat.le_refl _)) hb.size))))
                clear hb p0 p1 p2 p3
                have z0 := HN.out.2.1.at_ 0 _ rfl
                have z1 := HN.out.2.1.at_ 1 _ rfl
                have z2 := HN.out.2.1.at_ 2 _ rfl
                have z3 := HN.out.2.1.at_ 3 _ rfl
                have zf0 := HN.out.2.1.free 0
                have zf1 := HN.out.2.1.free 1
                have zf2 := HN.out.2.1.free 2
                have zf3 := HN.out.2.1.free 3
                have p0 := HN.out.2.2.1.at_ 0 _ rfl
                have p1 := HN.out.2.2.1.at_ 1 _ rfl
                have p2 := HN.out.2.2.1.at_ 2 _ rfl
                have p3 := HN.out.2.2.1.at_ 3 _ rfl
                go_wp2_with fail
                refine bodyPost_ret (v := .tuple #[.agg #[.int .i64 id, .string nm, .int .i64 ze, .slice A5 (adR l t y).length c5], .bool true]) (by simp [results, Try.results8, go_sem, z0, z1, z2, z3]) rfl (ad_yes HR2'.out ?_ HW.out.2.2.1 ?_)
                · refine ((((HN.out.2.2.2.1.put _ _ ?_).put _ _ ?_).put _ _ ?_).put _ _ ?_).wide ?_ ?_
                  all_goals (try simp [World.setCell])
                  all_goals (have := HN.out.2.2.2.2; try omega)
                · repeat (first | exact HN.out.1 | refine Below.setCell ?_ (by simp; try omega) _)
        · have HE : Hid (adE l t k = k) := by unfold Hid adE; rw [HHX.out, decide_eq_false hxt]; rfl
          have hxb : (x == t) = false := by simpa using hxt
          clear hxt
          have lc0 := lcell (g3')
          have lc1 := lcell (r0')
          have lc2 := lcell (c0')
          refine region_later (W := W1) (by kernel_rfl) (by kernel_rfl) (Below.refl _ _) ?_
          repeat (go_big_quiet_step (fail))
          refine wpQuiet_nil ?_
          intro W2 hW1
          have HL : Hid (Below W1.heap.size W1 W2) := by obtain ⟨x, rfl⟩ := hW1; exact Lib.hid x.below
          clear hW1 lc0 lc1 lc2
          have HGX := Lib.hid (HG1.out.next (bthen HT.out HL.out HT.out.size))
          have HRX := Lib.hid (HR1.out.next (bthen HT.out HL.out HT.out.size))
          have HZX := Lib.hid (HZ1.out.next (bthen HT.out HL.out HT.out.size))
          have HBX2 := Lib.hid (bthen HB1.out (bthen HT.out HL.out HT.out.size) HB1.out.size)
          have HSX := Lib.hid (spots_more HS1.out (bthen HT.out HL.out HT.out.size))
          have g0 := HGX.out.at_ 0 _ rfl
          have g1 := HGX.out.at_ 1 _ rfl
          have g2 := HGX.out.at_ 2 _ rfl
          have g3 := HGX.out.at_ 3 _ rfl
          have hdl : (l.drop k).length = n3 := by have := HN3.out; rw [List.length_drop]; omega
          clear g3' r0' c0' hp1
          go_wp2_with fail
          obtain ⟨X0, hX0⟩ : ∃ X0, X0 = W2.alloc (.cells #[.int .i64 id, .string nm, .int .i64 ze, .slice (some ⟨b, o, none⟩) l.length c] 26) := ⟨_, rfl⟩
          have HBX : Hid (Below W2.heap.size W2 X0) := by rw [hX0]; exact Lib.hid (box1 (Below.refl _ _)).1
          have HXB : Hid (Has X0 W2.heap.size [.int .i64 id, .string nm, .int .i64 ze, .slice (some ⟨b, o, none⟩) l.length c]) := by rw [hX0]; exact Lib.hid (box1 (Below.refl _ _)).2
          have HWS := Lib.hid HXB.out.1
          rw [← hX0]
          clear hX0 g0 g1 g2 g3
          obtain ⟨O3, hO3⟩ : ∃ O3 : Addr, O3 = ⟨b, o + k * 2, none⟩ := ⟨_, rfl⟩
          obtain ⟨L3, hL3⟩ : ∃ L3, L3 = l.drop (k) := ⟨_, rfl⟩
          rw [← hO3]
          have HADL : Hid (adR l t y = l.take k ++ [(t, y)] ++ L3) := by unfold Hid adR adL; rw [lb_is HLB.out, HE.out, hL3]
          have HPA := Lib.hid ((part_take (part_of_spots HSX.out) k).next HBX.out)
          have HP3 : Hid (Part X0 O3 L3) := Lib.hid (by rw [hO3, hL3]; exact (part_drop (part_of_spots HSX.out) (by omega)).next HBX.out)
          have HL3 : Hid (L3.length = n3) := Lib.hid (by rw [hL3]; exact hdl)
          have HLT : Hid ((l.take k).length = k) := Lib.hid (by rw [List.length_take]; omega)
          have HB5 : Hid (([] : List (Int × Int)).length + k ≤ 100) := Lib.hid (by simp; omega)
          have HB8 : Hid (([] ++ l.take k : List (Int × Int)).length + 1 ≤ 100) := Lib.hid (by simp; omega)
          have HB10 : Hid (([] ++ l.take k ++ [(t, y)] : List (Int × Int)).length + n3 ≤ 100) := Lib.hid (by have := HN3.out; simp; omega)
          clear hO3 hL3 hdl
          go_cut [8] (fun p wx => p = .pointer (some ⟨W2.heap.size, 0, none⟩) ∧ ∃ (A5 : Option Addr) (c5 : Nat), Hid (CutP W2 id ze nm (adR l t y) A5 c5 wx))
          case first =>
            have lc0 := lcell ((HGX.out.next HBX.out).at_ 3 _ rfl)
            have lc1 := lcell ((HRX.out.next HBX.out).at_ 0 _ rfl)
            have lc2 := lcell ((HRX.out.next HBX.out).at_ 1 _ rfl)
            refine region_reads (W := X0) 11 7 [1, 2, 3, 4, 6, 9] (by kernel_rfl) (by kernel_rfl) rfl (Below.refl _ _) (fun d _ _ _ _ h => by cases d <;> exact h) ?_
            simp only [picks, List.getElem?_cons_succ, List.getElem?_cons_zero]
            repeat (go_big_quiet_step (fail))
            refine wpQuiet_nil ?_
            intro W3 hW1
            have HLX : Hid (Below X0.heap.size X0 W3) := by obtain ⟨x, rfl⟩ := hW1; exact Lib.hid x.below
            clear hW1 lc0 lc1 lc2
            refine wpAnyN_two (i := 0) (i' := 7) (by kernel_rfl) ?_ ?_
            · skip
              refine wpOp_step rfl (fun K hK => ?_)
              rw [if_pos (by rfl)]
              have HD1 : Hid (Below W3.heap.size W3 (W3.alloc (.cells #[] 28))) := Lib.hid (box1 (Below.refl _ _)).1
              have HB1 : Hid (Below X0.heap.size X0 (W3.alloc (.cells #[] 28))) := Lib.hid (HLX.out.alloc HLX.out.size _)
              have HZ1 : Hid ((W3.alloc (.cells #[] 28)).heap.size = W3.heap.size + 1) := Lib.hid (World.size_alloc _ _)
              have HC1 : Hid (CS X0 [] (.slice (some ⟨W3.heap.size, 0, none⟩) 0 0) (W3.alloc (.cells #[] 28))) := Lib.hid ⟨World.ownsRow_made W3 #[] 0 HLX.out.size (by unfold maxLen; omega) (by simp), HB1.out⟩
              go_simp
              refine hK _ _ ⟨⟨⟨_, HB1.out⟩, rfl⟩, ?_⟩
              clear hK K
              obtain ⟨X1, hX1⟩ : ∃ V, V = W3.alloc (.cells #[] 28) := ⟨_, rfl⟩
              rw [← hX1]
              rw [← hX1] at HD1 HB1 HZ1 HC1
              clear hX1
              refine wpAnyN_two (i := 5) (i' := 7) (by kernel_rfl) ?_ ?_
              · skip
                refine wpOp_step rfl (fun K hK => ?_)
                rw [if_pos (by rfl)]
                refine wp_append_own _ _ _ 24 rfl X0.heap.size 28 i0 (.agg #[.int .i64 0, .int .i64 0]) 2 16 Try.underlying24 HI.out.1 HI.out.2.1 HI.out.2.2.1 HI.out.2.2.2 rfl (by decide) _ _ _ rfl HC1.out.1 ⟨b, o, none⟩ k c (cells2 (l.take k)) rfl (by rw [cells2_len, HLT.out]) (HPA.out.next HC1.out.2) (cells2_one _) (Nat.le_trans HB5.out (by unfold maxLen; decide)) (by have := HB5.out; omega) HC1.out.2.size (fun v2 X2 hown hgrow _ => ?_)
                have HC2 : Hid (CS X0 ([] ++ (l.take k)) v2 X2) := Lib.hid (cs_step HC1.out (by rw [HLT.out]; exact hown) hgrow)
                clear hown hgrow
                refine hK _ _ ⟨⟨⟨_, HC2.out.2⟩, rfl⟩, ?_⟩
                clear hK K
                have HBx2 := Lib.hid HC2.out.2
                refine wpAnyN_one (i := 7) (by kernel_rfl) ?_
                refine wpOp_step rfl (fun K hK => ?_)
                rw [if_pos (by rfl)]
                have HD3 : Hid (Below X2.heap.size X2 (X2.alloc (.cells #[.int .i64 t, .int .i64 y] 28))) := Lib.hid (box1 (Below.refl _ _)).1
                have HB3 : Hid (Below X0.heap.size X0 (X2.alloc (.cells #[.int .i64 t, .int .i64 y] 28))) := Lib.hid (HBx2.out.alloc HBx2.out.size _)
                have HZ3 : Hid ((X2.alloc (.cells #[.int .i64 t, .int .i64 y] 28)).heap.size = X2.heap.size + 1) := Lib.hid (World.size_alloc _ _)
                have HE3 : Hid (Has (X2.alloc (.cells #[.int .i64 t, .int .i64 y] 28)) X2.heap.size [.int .i64 t, .int .i64 y]) := Lib.hid (box1 (Below.refl _ _)).2
                go_simp
                refine hK _ _ ⟨⟨⟨_, HB3.out⟩, rfl⟩, ?_⟩
                clear hK K
                obtain ⟨X3, hX3⟩ : ∃ V, V = X2.alloc (.cells #[.int .i64 t, .int .i64 y] 28) := ⟨_, rfl⟩
                rw [← hX3]
                rw [← hX3] at HD3 HB3 HZ3 HE3
                clear hX3
                have HC3 : Hid (CS X0 ([] ++ (l.take k)) v2 X3) := Lib.hid ⟨own_below HC2.out.1 HD3.out, HB3.out⟩
                refine wpAnyN_one (i := 8) (by kernel_rfl) ?_
                refine wpOp_step rfl (fun K hK => ?_)
                rw [if_pos (by rfl)]
                refine wp_append_own _ _ _ 24 rfl X0.heap.size 28 i0 (.agg #[.int .i64 0, .int .i64 0]) 2 16 Try.underlying24 HI.out.1 HI.out.2.1 HI.out.2.2.1 HI.out.2.2.2 rfl (by decide) _ _ _ rfl HC3.out.1 ⟨X2.heap.size, 0, none⟩ 1 1 (cells2 [(t, y)]) rfl (cells2_len _) (part_of_has HE3.out) (cells2_one _) (Nat.le_trans HB8.out (by unfold maxLen; decide)) (by have := HB8.out; omega) HC3.out.2.size (fun v4 X4 hown hgrow _ => ?_)
                have HC4 : Hid (CS X0 ([] ++ (l.take k) ++ [(t, y)]) v4 X4) := Lib.hid (cs_step HC3.out (by exact hown) hgrow)
                clear hown hgrow
                refine hK _ _ ⟨⟨⟨_, HC4.out.2⟩, rfl⟩, ?_⟩
                clear hK K
                refine wpAnyN_one (i := 10) (by kernel_rfl) ?_
                refine wpOp_step rfl (fun K hK => ?_)
                rw [if_pos (by rfl)]
                refine wp_append_own _ _ _ 24 rfl X0.heap.size 28 i0 (.agg #[.int .i64 0, .int .i64 0]) 2 16 Try.underlying24 HI.out.1 HI.out.2.1 HI.out.2.2.1 HI.out.2.2.2 rfl (by decide) _ _ _ rfl HC4.out.1 O3 n3 c3 (cells2 L3) rfl (by rw [cells2_len, HL3.out]) (HP3.out.next HC4.out.2) (cells2_one _) (Nat.le_trans HB10.out (by unfold maxLen; decide)) (by have := HB10.out; omega) HC4.out.2.size (fun v5 X5 hown hgrow _ => ?_)
                have HC5 : Hid (CS X0 ([] ++ (l.take k) ++ [(t, y)] ++ L3) v5 X5) := Lib.hid (cs_step HC4.out (by rw [HL3.out]; exact hown) hgrow)
                clear hown hgrow
                refine hK _ _ ⟨⟨⟨_, HC5.out.2⟩, rfl⟩, ?_⟩
                clear hK K
                refine wpAnyN_end rfl (by kernel_rfl) rfl ?_
                simp only [List.drop_succ_cons, List.drop_zero]
                have HCF : Hid (CS X0 (adR l t y) v5 X5) := Lib.hid (by rw [HADL.out]; exact HC5.out)
                obtain ⟨A5, c5, rfl⟩ := own_slice HCF.out.1
                have HXF := Lib.hid (HXB.out.next HCF.out.2)
                have p3 := HXF.out.at_ 3 _ rfl
                have pf3 := HXF.out.free 3
                go_wp2_with fail
                go_meet
                exact ⟨rfl, A5, c5, cut_of HCF.out HXF.out HBX.out HWS.out⟩
              · skip
                refine wpOp_step rfl (fun K hK => ?_)
                rw [if_pos (by rfl)]
                have HD2 : Hid (Below X1.heap.size X1 (X1.alloc (.cells #[.int .i64 t, .int .i64 y] 28))) := Lib.hid (box1 (Below.refl _ _)).1
                have HB2 : Hid (Below X0.heap.size X0 (X1.alloc (.cells #[.int .i64 t, .int .i64 y] 28))) := Lib.hid (HB1.out.alloc HB1.out.size _)
                have HZ2 : Hid ((X1.alloc (.cells #[.int .i64 t, .int .i64 y] 28)).heap.size = X1.heap.size + 1) := Lib.hid (World.size_alloc _ _)
                have HE2 : Hid (Has (X1.alloc (.cells #[.int .i64 t, .int .i64 y] 28)) X1.heap.size [.int .i64 t, .int .i64 y]) := Lib.hid (box1 (Below.refl _ _)).2
                go_simp
                refine hK _ _ ⟨⟨⟨_, HB2.out⟩, rfl⟩, ?_⟩
                clear hK K
                obtain ⟨X2, hX2⟩ : ∃ V, V = X1.alloc (.cells #[.int .i64 t, .int .i64 y] 28) := ⟨_, rfl⟩
                rw [← hX2]
                rw [← hX2] at HD2 HB2 HZ2 HE2
                clear hX2
                have HC2 : Hid (CS X0 [] (.slice (some ⟨W3.heap.size, 0, none⟩) 0 0) X2) := Lib.hid ⟨own_below HC1.out.1 HD2.out, HB2.out⟩
                refine wpAnyN_one (i := 5) (by kernel_rfl) ?_
                refine wpOp_step rfl (fun K hK => ?_)
                rw [if_pos (by rfl)]
                refine wp_append_own _ _ _ 24 rfl X0.heap.size 28 i0 (.agg #[.int .i64 0, .int .i64 0]) 2 16 Try.underlying24 HI.out.1 HI.out.2.1 HI.out.2.2.1 HI.out.2.2.2 rfl (by decide) _ _ _ rfl HC2.out.1 ⟨b, o, none⟩ k c (cells2 (l.take k)) rfl (by rw [cells2_len, HLT.out]) (HPA.out.next HC2.out.2) (cells2_one _) (Nat.le_trans HB5.out (by unfold maxLen; decide)) (by have := HB5.out; omega) HC2.out.2.size (fun v3 X3 hown hgrow _ => ?_)
                have HC3 : Hid (CS X0 ([] ++ (l.take k)) v3 X3) := Lib.hid (cs_step HC2.out (by rw [HLT.out]; exact hown) hgrow)
                have HE3 := Lib.hid (has_grown HE2.out hgrow (fun q => by have q2 : X1.heap.size = W3.heap.size := Option.some.inj q; have q3 := HZ1.out; omega))
                clear hown hgrow
                refine hK _ _ ⟨⟨⟨_, HC3.out.2⟩, rfl⟩, ?_⟩
                clear hK K
                refine wpAnyN_one (i := 8) (by kernel_rfl) ?_
                refine wpOp_step rfl (fun K hK => ?_)
                rw [if_pos (by rfl)]
                refine wp_append_own _ _ _ 24 rfl X0.heap.size 28 i0 (.agg #[.int .i64 0, .int .i64 0]) 2 16 Try.underlying24 HI.out.1 HI.out.2.1 HI.out.2.2.1 HI.out.2.2.2 rfl (by decide) _ _ _ rfl HC3.out.1 ⟨X1.heap.size, 0, none⟩ 1 1 (cells2 [(t, y)]) rfl (cells2_len _) (part_of_has HE3.out) (cells2_one _) (Nat.le_trans HB8.out (by unfold maxLen; decide)) (by have := HB8.out; omega) HC3.out.2.size (fun v4 X4 hown hgrow _ => ?_)
                have HC4 : Hid (CS X0 ([] ++ (l.take k) ++ [(t, y)]) v4 X4) := Lib.hid (cs_step HC3.out (by exact hown) hgrow)
                clear hown hgrow
                refine hK _ _ ⟨⟨⟨_, HC4.out.2⟩, rfl⟩, ?_⟩
                clear hK K
                refine wpAnyN_one (i := 10) (by kernel_rfl) ?_
                refine wpOp_step rfl (fun K hK => ?_)
                rw [if_pos (by rfl)]
                refine wp_append_own _ _ _ 24 rfl X0.heap.size 28 i0 (.agg #[.int .i64 0, .int .i64 0]) 2 16 Try.underlying24 HI.out.1 HI.out.2.1 HI.out.2.2.1 HI.out.2.2.2 rfl (by decide) _ _ _ rfl HC4.out.1 O3 n3 c3 (cells2 L3) rfl (by rw [cells2_len, HL3.out]) (HP3.out.next HC4.out.2) (cells2_one _) (Nat.le_trans HB10.out (by unfold maxLen; decide)) (by have := HB10.out; omega) HC4.out.2.size (fun v5 X5 hown hgrow _ => ?_)
                have HC5 : Hid (CS X0 ([] ++ (l.take k) ++ [(t, y)] ++ L3) v5 X5) := Lib.hid (cs_step HC4.out (by rw [HL3.out]; exact hown) hgrow)
                clear hown hgrow
                refine hK _ _ ⟨⟨⟨_, HC5.out.2⟩, rfl⟩, ?_⟩
                clear hK K
                refine wpAnyN_end rfl (by kernel_rfl) rfl ?_
                simp only [List.drop_succ_cons, List.drop_zero]
                have HCF : Hid (CS X0 (adR l t y) v5 X5) := Lib.hid (by rw [HADL.out]; exact HC5.out)
                obtain ⟨A5, c5, rfl⟩ := own_slice HCF.out.1
                have HXF := Lib.hid (HXB.out.next HCF.out.2)
                have p3 := HXF.out.at_ 3 _ rfl
                have pf3 := HXF.out.free 3
                go_wp2_with fail
                go_meet
                exact ⟨rfl, A5, c5, cut_of HCF.out HXF.out HBX.out HWS.out⟩
            · skip
              refine wpOp_step rfl (fun K hK => ?_)
              rw [if_pos (by rfl)]
              have HD1 : Hid (Below W3.heap.size W3 (W3.alloc (.cells #[.int .i64 t, .int .i64 y] 28))) := Lib.hid (box1 (Below.refl _ _)).1
              have HB1 : Hid (Below X0.heap.size X0 (W3.alloc (.cells #[.int .i64 t, .int .i64 y] 28))) := Lib.hid (HLX.out.alloc HLX.out.size _)
              have HZ1 : Hid ((W3.alloc (.cells #[.int .i64 t, .int .i64 y] 28)).heap.size = W3.heap.size + 1) := Lib.hid (World.size_alloc _ _)
              have HE1 : Hid (Has (W3.alloc (.cells #[.int .i64 t, .int .i64 y] 28)) W3.heap.size [.int .i64 t, .int .i64 y]) := Lib.hid (box1 (Below.refl _ _)).2
              go_simp
              refine hK _ _ ⟨⟨⟨_, HB1.out⟩, rfl⟩, ?_⟩
              clear hK K
              obtain ⟨X1, hX1⟩ : ∃ V, V = W3.alloc (.cells #[.int .i64 t, .int .i64 y] 28) := ⟨_, rfl⟩
              rw [← hX1]
              rw [← hX1] at HD1 HB1 HZ1 HE1
              clear hX1
              refine wpAnyN_one (i := 0) (by kernel_rfl) ?_
              refine wpOp_step rfl (fun K hK => ?_)
              rw [if_pos (by rfl)]
              have HD2 : Hid (Below X1.heap.size X1 (X1.alloc (.cells #[] 28))) := Lib.hid (box1 (Below.refl _ _)).1
              have HB2 : Hid (Below X0.heap.size X0 (X1.alloc (.cells #[] 28))) := Lib.hid (HB1.out.alloc HB1.out.size _)
              have HZ2 : Hid ((X1.alloc (.cells #[] 28)).heap.size = X1.heap.size + 1) := Lib.hid (World.size_alloc _ _)
              have HC2 : Hid (CS X0 [] (.slice (some ⟨X1.heap.size, 0, none⟩) 0 0) (X1.alloc (.cells #[] 28))) := Lib.hid ⟨World.ownsRow_made X1 #[] 0 HB1.out.size (by unfold maxLen; omega) (by simp), HB2.out⟩
              go_simp
              refine hK _ _ ⟨⟨⟨_, HB2.out⟩, rfl⟩, ?_⟩
              clear hK K
              obtain ⟨X2, hX2⟩ : ∃ V, V = X1.alloc (.cells #[] 28) := ⟨_, rfl⟩
              rw [← hX2]
              rw [← hX2] at HD2 HB2 HZ2 HC2
              clear hX2
              have HE2 := Lib.hid (HE1.out.next HD2.out)
              refine wpAnyN_one (i := 5) (by kernel_rfl) ?_
              refine wpOp_step rfl (fun K hK => ?_)
              rw [if_pos (by rfl)]
              refine wp_append_own _ _ _ 24 rfl X0.heap.size 28 i0 (.agg #[.int .i64 0, .int .i64 0]) 2 16 Try.underlying24 HI.out.1 HI.out.2.1 HI.out.2.2.1 HI.out.2.2.2 rfl (by decide) _ _ _ rfl HC2.out.1 ⟨b, o, none⟩ k c (cells2 (l.take k)) rfl (by rw [cells2_len, HLT.out]) (HPA.out.next HC2.out.2) (cells2_one _) (Nat.le_trans HB5.out (by unfold maxLen; decide)) (by have := HB5.out; omega) HC2.out.2.size (fun v3 X3 hown hgrow _ => ?_)
              have HC3 : Hid (CS X0 ([] ++ (l.take k)) v3 X3) := Lib.hid (cs_step HC2.out (by rw [HLT.out]; exact hown) hgrow)
              have HE3 := Lib.hid (has_grown HE2.out hgrow (fun q => by have q2 : W3.heap.size = X1.heap.size := Option.some.inj q; have q3 := HZ1.out; omega))
              clear hown hgrow
              refine hK _ _ ⟨⟨⟨_, HC3.out.2⟩, rfl⟩, ?_⟩
              clear hK K
              refine wpAnyN_one (i := 8) (by kernel_rfl) ?_
              refine wpOp_step rfl (fun K hK => ?_)
              rw [if_pos (by rfl)]
              refine wp_append_own _ _ _ 24 rfl X0.heap.size 28 i0 (.agg #[.int .i64 0, .int .i64 0]) 2 16 Try.underlying24 HI.out.1 HI.out.2.1 HI.out.2.2.1 HI.out.2.2.2 rfl (by decide) _ _ _ rfl HC3.out.1 ⟨W3.heap.size, 0, none⟩ 1 1 (cells2 [(t, y)]) rfl (cells2_len _) (part_of_has HE3.out) (cells2_one _) (Nat.le_trans HB8.out (by unfold maxLen; decide)) (by have := HB8.out; omega) HC3.out.2.size (fun v4 X4 hown hgrow _ => ?_)
              have HC4 : Hid (CS X0 ([] ++ (l.take k) ++ [(t, y)]) v4 X4) := Lib.hid (cs_step HC3.out (by exact hown) hgrow)
              clear hown hgrow
              refine hK _ _ ⟨⟨⟨_, HC4.out.2⟩, rfl⟩, ?_⟩
              clear hK K
              refine wpAnyN_one (i := 10) (by kernel_rfl) ?_
              refine wpOp_step rfl (fun K hK => ?_)
              rw [if_pos (by rfl)]
              refine wp_append_own _ _ _ 24 rfl X0.heap.size 28 i0 (.agg #[.int .i64 0, .int .i64 0]) 2 16 Try.underlying24 HI.out.1 HI.out.2.1 HI.out.2.2.1 HI.out.2.2.2 rfl (by decide) _ _ _ rfl HC4.out.1 O3 n3 c3 (cells2 L3) rfl (by rw [cells2_len, HL3.out]) (HP3.out.next HC4.out.2) (cells2_one _) (Nat.le_trans HB10.out (by unfold maxLen; decide)) (by have := HB10.out; omega) HC4.out.2.size (fun v5 X5 hown hgrow _ => ?_)
              have HC5 : Hid (CS X0 ([] ++ (l.take k) ++ [(t, y)] ++ L3) v5 X5) := Lib.hid (cs_step HC4.out (by rw [HL3.out]; exact hown) hgrow)
              clear hown hgrow
              refine hK _ _ ⟨⟨⟨_, HC5.out.2⟩, rfl⟩, ?_⟩
              clear hK K
              refine wpAnyN_end rfl (by kernel_rfl) rfl ?_
              simp only [List.drop_succ_cons, List.drop_zero]
              have HCF : Hid (CS X0 (adR l t y) v5 X5) := Lib.hid (by rw [HADL.out]; exact HC5.out)
              obtain ⟨A5, c5, rfl⟩ := own_slice HCF.out.1
              have HXF := Lib.hid (HXB.out.next HCF.out.2)
              have p3 := HXF.out.at_ 3 _ rfl
              have pf3 := HXF.out.free 3
              go_wp2_with fail
              go_meet
              exact ⟨rfl, A5, c5, cut_of HCF.out HXF.out HBX.out HWS.out⟩
          case rest =>
            obtain ⟨rfl, A5, c5, HW⟩ := hcut
            have HSY := Lib.hid (HW.out.2.1.spots (Nat.le_refl _))
            have HBZ := Lib.hid (bthen HBX2.out HW.out.2.2.2 HBX2.out.size)
            have HZY := Lib.hid (HZX.out.next HW.out.2.2.2)
            have HOY := Lib.hid (HW.out.2.1.wide (lo' := w.heap.size + 3) (by have := HZX.out.1; omega) (Nat.le_refl _))
            have HLN : Hid ((adR l t y).length ≤ maxLen) := by
              have h1 := HADL.out
              have h2 := HL3.out
              have h3 := HB10.out
              unfold Hid maxLen
              rw [h1, List.length_append, h2]
              exact Nat.le_trans h3 (by decide)
            have p0 := HW.out.1.at_ 0 _ rfl
            have p1 := HW.out.1.at_ 1 _ rfl
            have p2 := HW.out.1.at_ 2 _ rfl
            have p3 := HW.out.1.at_ 3 _ rfl
            rcases hk2 : gaugeB id nm ze (adR l t y) with _ | _
            · have HG2' := Lib.hid hk2
              have HR2' : Hid (adK id ze nm l t y = false) := by unfold Hid adK; rw [hk2, Bool.and_false]
              clear hk2
              go_wp2_with fail
              refine (one_v _ _ _ _ _ _ (adR l t y) _ HG2'.out _ HSY.out HLN.out hn).mono ?_
              rintro e w6 ⟨rfl, hb⟩
              have HN := Lib.hid (And.intro (bthen HBZ.out hb HBZ.out.size) (HZY.out.next hb))
              clear hb p0 p1 p2 p3
              have z0 := HN.out.2.at_ 0 _ rfl
              have z1 := HN.out.2.at_ 1 _ rfl
              have z2 := HN.out.2.at_ 2 _ rfl
              have z3 := HN.out.2.at_ 3 _ rfl
              have zf0 := HN.out.2.free 0
              have zf1 := HN.out.2.free 1
              have zf2 := HN.out.2.free 2
              have zf3 := HN.out.2.free 3
              go_wp2_with fail
              refine bodyPost_ret (v := .tuple #[.agg #[.int .i64 0, .string ⟨#[]⟩, .int .i64 0, .slice none 0 0], .bool false]) (by simp [results, Try.results8, go_sem, z0, z1, z2, z3]) rfl (ad_no HR2'.out ?_)
              repeat (first | exact HN.out.1 | refine Below.setCell ?_ (by simp; try omega) _)
            · have HG2' := Lib.hid hk2
              have HR2' : Hid (adK id ze nm l t y = true) := by unfold Hid adK; rw [HG.out, hk2]; rfl
              clear hk2
              go_wp2_with fail
              refine (one_v _ _ _ _ _ _ (adR l t y) _ HG2'.out _ HSY.out HLN.out hn).mono ?_
              rintro e w6 ⟨rfl, hb⟩
              have HN := Lib.hid (And.intro (bthen HBZ.out hb HBZ.out.size) (And.intro (HZY.out.next hb) (And.intro (HW.out.1.next hb) (And.intro (HOY.out.on hb (Nat.le_refl _)) hb.size))))
              clear hb p0 p1 p2 p3
              have z0 := HN.out.2.1.at_ 0 _ rfl
              have z1 := HN.out.2.1.at_ 1 _ rfl
              have z2 := HN.out.2.1.at_ 2 _ rfl
              have z3 := HN.out.2.1.at_ 3 _ rfl
              have zf0 := HN.out.2.1.free 0
              have zf1 := HN.out.2.1.free 1
              have zf2 := HN.out.2.1.free 2
              have zf3 := HN.out.2.1.free 3
              have p0 := HN.out.2.2.1.at_ 0 _ rfl
              have p1 := HN.out.2.2.1.at_ 1 _ rfl
              have p2 := HN.out.2.2.1.at_ 2 _ rfl
              have p3 := HN.out.2.2.1.at_ 3 _ rfl
              go_wp2_with fail
              refine bodyPost_ret (v := .tuple #[.agg #[.int .i64 id, .string nm, .int .i64 ze, .slice A5 (adR l t y).length c5], .bool true]) (by simp [results, Try.results8, go_sem, z0, z1, z2, z3]) rfl (ad_yes HR2'.out ?_ HW.out.2.2.1 ?_)
              · refine ((((HN.out.2.2.2.1.put _ _ ?_).put _ _ ?_).put _ _ ?_).put _ _ ?_).wide ?_ ?_
                all_goals (try simp [World.setCell])
                all_goals (have := HN.out.2.2.2.2; try omega)
              · repeat (first | exact HN.out.1 | refine Below.setCell ?_ (by simp; try omega) _)
      · obtain rfl : k = l.length := by omega
        have hd2 : decide ((l.length : Int) < (l.length : Int)) = false := decide_eq_false (by omega)
        have HE : Hid (adE l t l.length = l.length) := by unfold Hid adE hitB; simp
        have q0 : (0 : Int) ≤ (l.length : Int) := by omega
        clear hgo
        have HN3 : Hid (0 = l.length - l.length) := Lib.hid (by omega)
        go_wp2_with fail
        have lc0 := lcell (g3)
        have lc1 := lcell (r0)
        refine region_later (W := W0) (by kernel_rfl) (by kernel_rfl) (Below.refl _ _) ?_
        repeat (go_big_quiet_step (fail))
        refine wpQuiet_nil ?_
        intro W1 hW1
        have HL : Hid (Below W0.heap.size W0 W1) := by obtain ⟨x, rfl⟩ := hW1; exact Lib.hid x.below
        clear hW1 lc0 lc1
        have HT := Lib.hid (bthen hB.out HL.out hB.out.size)
        have g3' := cell_next HL.out g3
        have r0' := cell_next HL.out r0
        clear g3 r0 HL
        by_cases hck : c = l.length
        · subst hck
          go_wp2_with fail
          have lc0 := lcell (g3')
          have lc1 := lcell (r0')
          refine region_later (W := W1) (by kernel_rfl) (by kernel_rfl) (Below.refl _ _) ?_
          repeat (go_big_quiet_step (fail))
          refine wpQuiet_nil ?_
          intro W2 hW1
          have HL : Hid (Below W1.heap.size W1 W2) := by obtain ⟨x, rfl⟩ := hW1; exact Lib.hid x.below
          clear hW1 lc0 lc1
          have HGX := Lib.hid (HG1.out.next (bthen HT.out HL.out HT.out.size))
          have HRX := Lib.hid (HR1.out.next (bthen HT.out HL.out HT.out.size))
          have HZX := Lib.hid (HZ1.out.next (bthen HT.out HL.out HT.out.size))
          have HBX2 := Lib.hid (bthen HB1.out (bthen HT.out HL.out HT.out.size) HB1.out.size)
          have HSX := Lib.hid (spots_more HS1.out (bthen HT.out HL.out HT.out.size))
          have g0 := HGX.out.at_ 0 _ rfl
          have g1 := HGX.out.at_ 1 _ rfl
          have g2 := HGX.out.at_ 2 _ rfl
          have g3 := HGX.out.at_ 3 _ rfl
          have hdl : (l.drop l.length).length = 0 := by rw [List.length_drop]; omega
          clear g3' r0'
          go_wp2_with fail
          obtain ⟨X0, hX0⟩ : ∃ X0, X0 = W2.alloc (.cells #[.int .i64 id, .string nm, .int .i64 ze, .slice (some ⟨b, o, none⟩) l.length l.length] 26) := ⟨_, rfl⟩
          have HBX : Hid (Below W2.heap.size W2 X0) := by rw [hX0]; exact Lib.hid (box1 (Below.refl _ _)).1
          have HXB : Hid (Has X0 W2.heap.size [.int .i64 id, .string nm, .int .i64 ze, .slice (some ⟨b, o, none⟩) l.length l.length]) := by rw [hX0]; exact Lib.hid (box1 (Below.refl _ _)).2
          have HWS := Lib.hid HXB.out.1
          rw [← hX0]
          clear hX0 g0 g1 g2 g3
          obtain ⟨O3, hO3⟩ : ∃ O3 : Addr, O3 = ⟨b, o, none⟩ := ⟨_, rfl⟩
          obtain ⟨L3, hL3⟩ : ∃ L3, L3 = l.drop (l.length) := ⟨_, rfl⟩
          rw [← hO3]
          have HADL : Hid (adR l t y = l.take l.length ++ [(t, y)] ++ L3) := by unfold Hid adR adL; rw [lb_is HLB.out, HE.out, hL3]
          have HPA := Lib.hid ((part_take (part_of_spots HSX.out) l.length).next HBX.out)
          have HP3 : Hid (Part X0 O3 L3) := Lib.hid (fun j u hu => by have hj := (List.getElem?_eq_some_iff.1 hu).1; rw [cells2_len, hL3, hdl] at hj; omega)
          have HL3 : Hid (L3.length = 0) := Lib.hid (by rw [hL3]; exact hdl)
          have HLT : Hid ((l.take l.length).length = l.length) := Lib.hid (by rw [List.length_take]; omega)
          have HB5 : Hid (([] : List (Int × Int)).length + l.length ≤ 100) := Lib.hid (by simp; omega)
          have HB8 : Hid (([] ++ l.take l.length : List (Int × Int)).length + 1 ≤ 100) := Lib.hid (by simp; omega)
          have HB10 : Hid (([] ++ l.take l.length ++ [(t, y)] : List (Int × Int)).length + 0 ≤ 100) := Lib.hid (by have := HN3.out; simp; omega)
          clear hO3 hL3 hdl
          go_cut [8] (fun p wx => p = .pointer (some ⟨W2.heap.size, 0, none⟩) ∧ ∃ (A5 : Option Addr) (c5 : Nat), Hid (CutP W2 id ze nm (adR l t y) A5 c5 wx))
          case first =>
            have lc0 := lcell ((HGX.out.next HBX.out).at_ 3 _ rfl)
            have lc1 := lcell ((HRX.out.next HBX.out).at_ 0 _ rfl)
            have lc2 := lcell ((HRX.out.next HBX.out).at_ 1 _ rfl)
            refine region_reads (W := X0) 11 7 [1, 2, 3, 4, 6, 9] (by kernel_rfl) (by kernel_rfl) rfl (Below.refl _ _) (fun d _ _ _ _ h => by cases d <;> exact h) ?_
            simp only [picks, List.getElem?_cons_succ, List.getElem?_cons_zero]
            repeat (go_big_quiet_step (fail))
            refine wpQuiet_nil ?_
            intro W3 hW1
            have HLX : Hid (Below X0.heap.size X0 W3) := by obtain ⟨x, rfl⟩ := hW1; exact Lib.hid x.below
            clear hW1 lc0 lc1 lc2
            refine wpAnyN_two (i := 0) (i' := 7) (by kernel_rfl) ?_ ?_
            · skip
              refine wpOp_step rfl (fun K hK => ?_)
              rw [if_pos (by rfl)]
              have HD1 : Hid (Below W3.heap.size W3 (W3.alloc (.cells #[] 28))) := Lib.hid (box1 (Below.refl _ _)).1
              have HB1 : Hid (Below X0.heap.size X0 (W3.alloc (.cells #[] 28))) := Lib.hid (HLX.out.alloc HLX.out.size _)
              have HZ1 : Hid ((W3.alloc (.cells #[] 28)).heap.size = W3.heap.size + 1) := Lib.hid (World.size_alloc _ _)
              have HC1 : Hid (CS X0 [] (.slice (some ⟨W3.heap.size, 0, none⟩) 0 0) (W3.alloc (.cells #[] 28))) := Lib.hid ⟨World.ownsRow_made W3 #[] 0 HLX.out.size (by unfold maxLen; omega) (by simp), HB1.out⟩
              go_simp
              refine hK _ _ ⟨⟨⟨_, HB1.out⟩, rfl⟩, ?_⟩
              clear hK K
              obtain ⟨X1, hX1⟩ : ∃ V, V = W3.alloc (.cells #[] 28) := ⟨_, rfl⟩
              rw [← hX1]
              rw [← hX1] at HD1 HB1 HZ1 HC1
              clear hX1
              refine wpAnyN_two (i := 5) (i' := 7) (by kernel_rfl) ?_ ?_
              · skip
                refine wpOp_step rfl (fun K hK => ?_)
                rw [if_pos (by rfl)]
                refine wp_append_own _ _ _ 24 rfl X0.heap.size 28 i0 (.agg #[.int .i64 0, .int .i64 0]) 2 16 Try.underlying24 HI.out.1 HI.out.2.1 HI.out.2.2.1 HI.out.2.2.2 rfl (by decide) _ _ _ rfl HC1.out.1 ⟨b, o, none⟩ l.length l.length (cells2 (l.take l.length)) rfl (by rw [cells2_len, HLT.out]) (HPA.out.next HC1.out.2) (cells2_one _) (Nat.le_trans HB5.out (by unfold maxLen; decide)) (by have := HB5.out; omega) HC1.out.2.size (fun v2 X2 hown hgrow _ => ?_)
                have HC2 : Hid (CS X0 ([] ++ (l.take l.length)) v2 X2) := Lib.hid (cs_step HC1.out (by rw [HLT.out]; exact hown) hgrow)
                clear hown hgrow
                refine hK _ _ ⟨⟨⟨_, HC2.out.2⟩, rfl⟩, ?_⟩
                clear hK K
                have HBx2 := Lib.hid HC2.out.2
                refine wpAnyN_one (i := 7) (by kernel_rfl) ?_
                refine wpOp_step rfl (fun K hK => ?_)
                rw [if_pos (by rfl)]
                have HD3 : Hid (Below X2.heap.size X2 (X2.alloc (.cells #[.int .i64 t, .int .i64 y] 28))) := Lib.hid (box1 (Below.refl _ _)).1
                have HB3 : Hid (Below X0.heap.size X0 (X2.alloc (.cells #[.int .i64 t, .int .i64 y] 28))) := Lib.hid (HBx2.out.alloc HBx2.out.size _)
                have HZ3 : Hid ((X2.alloc (.cells #[.int .i64 t, .int .i64 y] 28)).heap.size = X2.heap.size + 1) := Lib.hid (World.size_alloc _ _)
                have HE3 : Hid (Has (X2.alloc (.cells #[.int .i64 t, .int .i64 y] 28)) X2.heap.size [.int .i64 t, .int .i64 y]) := Lib.hid (box1 (Below.refl _ _)).2
                go_simp
                refine hK _ _ ⟨⟨⟨_, HB3.out⟩, rfl⟩, ?_⟩
                clear hK K
                obtain ⟨X3, hX3⟩ : ∃ V, V = X2.alloc (.cells #[.int .i64 t, .int .i64 y] 28) := ⟨_, rfl⟩
                rw [← hX3]
                rw [← hX3] at HD3 HB3 HZ3 HE3
                clear hX3
                have HC3 : Hid (CS X0 ([] ++ (l.take l.length)) v2 X3) := Lib.hid ⟨own_below HC2.out.1 HD3.out, HB3.out⟩
                refine wpAnyN_one (i := 8) (by kernel_rfl) ?_
                refine wpOp_step rfl (fun K hK => ?_)
                rw [if_pos (by rfl)]
                refine wp_append_own _ _ _ 24 rfl X0.heap.size 28 i0 (.agg #[.int .i64 0, .int .i64 0]) 2 16 Try.underlying24 HI.out.1 HI.out.2.1 HI.out.2.2.1 HI.out.2.2.2 rfl (by decide) _ _ _ rfl HC3.out.1 ⟨X2.heap.size, 0, none⟩ 1 1 (cells2 [(t, y)]) rfl (cells2_len _) (part_of_has HE3.out) (cells2_one _) (Nat.le_trans HB8.out (by unfold maxLen; decide)) (by have := HB8.out; omega) HC3.out.2.size (fun v4 X4 hown hgrow _ => ?_)
                have HC4 : Hid (CS X0 ([] ++ (l.take l.length) ++ [(t, y)]) v4 X4) := Lib.hid (cs_step HC3.out (by exact hown) hgrow)
                clear hown hgrow
                refine hK _ _ ⟨⟨⟨_, HC4.out.2⟩, rfl⟩, ?_⟩
                clear hK K
                refine wpAnyN_one (i := 10) (by kernel_rfl) ?_
                refine wpOp_step rfl (fun K hK => ?_)
                rw [if_pos (by rfl)]
                refine wp_append_own _ _ _ 24 rfl X0.heap.size 28 i0 (.agg #[.int .i64 0, .int .i64 0]) 2 16 Try.underlying24 HI.out.1 HI.out.2.1 HI.out.2.2.1 HI.out.2.2.2 rfl (by decide) _ _ _ rfl HC4.out.1 O3 0 0 (cells2 L3) rfl (by rw [cells2_len, HL3.out]) (HP3.out.next HC4.out.2) (cells2_one _) (Nat.le_trans HB10.out (by unfold maxLen; decide)) (by have := HB10.out; omega) HC4.out.2.size (fun v5 X5 hown hgrow _ => ?_)
                have HC5 : Hid (CS X0 ([] ++ (l.take l.length) ++ [(t, y)] ++ L3) v5 X5) := Lib.hid (cs_step HC4.out (by rw [HL3.out]; exact hown) hgrow)
                clear hown hgrow
                refine hK _ _ ⟨⟨⟨_, HC5.out.2⟩, rfl⟩, ?_⟩
                clear hK K
                refine wpAnyN_end rfl (by kernel_rfl) rfl ?_
                simp only [List.drop_succ_cons, List.drop_zero]
                have HCF : Hid (CS X0 (adR l t y) v5 X5) := Lib.hid (by rw [HADL.out]; exact HC5.out)
                obtain ⟨A5, c5, rfl⟩ := own_slice HCF.out.1
                have HXF := Lib.hid (HXB.out.next HCF.out.2)
                have p3 := HXF.out.at_ 3 _ rfl
                have pf3 := HXF.out.free 3
                go_wp2_with fail
                go_meet
                exact ⟨rfl, A5, c5, cut_of HCF.out HXF.out HBX.out HWS.out⟩
              · skip
                refine wpOp_step rfl (fun K hK => ?_)
                rw [if_pos (by rfl)]
                have HD2 : Hid (Below X1.heap.size X1 (X1.alloc (.cells #[.int .i64 t, .int .i64 y] 28))) := Lib.hid (box1 (Below.refl _ _)).1
                have HB2 : Hid (Below X0.heap.size X0 (X1.alloc (.cells #[.int .i64 t, .int .i64 y] 28))) := Lib.hid (HB1.out.alloc HB1.out.size _)
                have HZ2 : Hid ((X1.alloc (.cells #[.int .i64 t, .int .i64 y] 28)).heap.size = X1.heap.size + 1) := Lib.hid (World.size_alloc _ _)
                have HE2 : Hid (Has (X1.alloc (.cells #[.int .i64 t, .int .i64 y] 28)) X1.heap.size [.int .i64 t, .int .i64 y]) := Lib.hid (box1 (Below.refl _ _)).2
                go_simp
                refine hK _ _ ⟨⟨⟨_, HB2.out⟩, rfl⟩, ?_⟩
                clear hK K
                obtain ⟨X2, hX2⟩ : ∃ V, V = X1.alloc (.cells #[.int .i64 t, .int .i64 y] 28) := ⟨_, rfl⟩
                rw [← hX2]
                rw [← hX2] at HD2 HB2 HZ2 HE2
                clear hX2
                have HC2 : Hid (CS X0 [] (.slice (some ⟨W3.heap.size, 0, none⟩) 0 0) X2) := Lib.hid ⟨own_below HC1.out.1 HD2.out, HB2.out⟩
                refine wpAnyN_one (i := 5) (by kernel_rfl) ?_
                refine wpOp_step rfl (fun K hK => ?_)
                rw [if_pos (by rfl)]
                refine wp_append_own _ _ _ 24 rfl X0.heap.size 28 i0 (.agg #[.int .i64 0, .int .i64 0]) 2 16 Try.underlying24 HI.out.1 HI.out.2.1 HI.out.2.2.1 HI.out.2.2.2 rfl (by decide) _ _ _ rfl HC2.out.1 ⟨b, o, none⟩ l.length l.length (cells2 (l.take l.length)) rfl (by rw [cells2_len, HLT.out]) (HPA.out.next HC2.out.2) (cells2_one _) (Nat.le_trans HB5.out (by unfold maxLen; decide)) (by have := HB5.out; omega) HC2.out.2.size (fun v3 X3 hown hgrow _ => ?_)
                have HC3 : Hid (CS X0 ([] ++ (l.take l.length)) v3 X3) := Lib.hid (cs_step HC2.out (by rw [HLT.out]; exact hown) hgrow)
                have HE3 := Lib.hid (has_grown HE2.out hgrow (fun q => by have q2 : X1.heap.size = W3.heap.size := Option.some.inj q; have q3 := HZ1.out; omega))
                clear hown hgrow
                refine hK _ _ ⟨⟨⟨_, HC3.out.2⟩, rfl⟩, ?_⟩
                clear hK K
                refine wpAnyN_one (i := 8) (by kernel_rfl) ?_
                refine wpOp_step rfl (fun K hK => ?_)
                rw [if_pos (by rfl)]
                refine wp_append_own _ _ _ 24 rfl X0.heap.size 28 i0 (.agg #[.int .i64 0, .int .i64 0]) 2 16 Try.underlying24 HI.out.1 HI.out.2.1 HI.out.2.2.1 HI.out.2.2.2 rfl (by decide) _ _ _ rfl HC3.out.1 ⟨X1.heap.size, 0, none⟩ 1 1 (cells2 [(t, y)]) rfl (cells2_len _) (part_of_has HE3.out) (cells2_one _) (Nat.le_trans HB8.out (by unfold maxLen; decide)) (by have := HB8.out; omega) HC3.out.2.size (fun v4 X4 hown hgrow _ => ?_)
                have HC4 : Hid (CS X0 ([] ++ (l.take l.length) ++ [(t, y)]) v4 X4) := Lib.hid (cs_step HC3.out (by exact hown) hgrow)
                clear hown hgrow
                refine hK _ _ ⟨⟨⟨_, HC4.out.2⟩, rfl⟩, ?_⟩
                clear hK K
                refine wpAnyN_one (i := 10) (by kernel_rfl) ?_
                refine wpOp_step rfl (fun K hK => ?_)
                rw [if_pos (by rfl)]
                refine wp_append_own _ _ _ 24 rfl X0.heap.size 28 i0 (.agg #[.int .i64 0, .int .i64 0]) 2 16 Try.underlying24 HI.out.1 HI.out.2.1 HI.out.2.2.1 HI.out.2.2.2 rfl (by decide) _ _ _ rfl HC4.out.1 O3 0 0 (cells2 L3) rfl (by rw [cells2_len, HL3.out]) (HP3.out.next HC4.out.2) (cells2_one _) (Nat.le_trans HB10.out (by unfold maxLen; decide)) (by have := HB10.out; omega) HC4.out.2.size (fun v5 X5 hown hgrow _ => ?_)
                have HC5 : Hid (CS X0 ([] ++ (l.take l.length) ++ [(t, y)] ++ L3) v5 X5) := Lib.hid (cs_step HC4.out (by rw [HL3.out]; exact hown) hgrow)
                clear hown hgrow
                refine hK _ _ ⟨⟨⟨_, HC5.out.2⟩, rfl⟩, ?_⟩
                clear hK K
                refine wpAnyN_end rfl (by kernel_rfl) rfl ?_
                simp only [List.drop_succ_cons, List.drop_zero]
                have HCF : Hid (CS X0 (adR l t y) v5 X5) := Lib.hid (by rw [HADL.out]; exact HC5.out)
                obtain ⟨A5, c5, rfl⟩ := own_slice HCF.out.1
                have HXF := Lib.hid (HXB.out.next HCF.out.2)
                have p3 := HXF.out.at_ 3 _ rfl
                have pf3 := HXF.out.free 3
                go_wp2_with fail
                go_meet
                exact ⟨rfl, A5, c5, cut_of HCF.out HXF.out HBX.out HWS.out⟩
            · skip
              refine wpOp_step rfl (fun K hK => ?_)
              rw [if_pos (by rfl)]
              have HD1 : Hid (Below W3.heap.size W3 (W3.alloc (.cells #[.int .i64 t, .int .i64 y] 28))) := Lib.hid (box1 (Below.refl _ _)).1
              have HB1 : Hid (Below X0.heap.size X0 (W3.alloc (.cells #[.int .i64 t, .int .i64 y] 28))) := Lib.hid (HLX.out.alloc HLX.out.size _)
              have HZ1 : Hid ((W3.alloc (.cells #[.int .i64 t, .int .i64 y] 28)).heap.size = W3.heap.size + 1) := Lib.hid (World.size_alloc _ _)
              have HE1 : Hid (Has (W3.alloc (.cells #[.int .i64 t, .int .i64 y] 28)) W3.heap.size [.int .i64 t, .int .i64 y]) := Lib.hid (box1 (Below.refl _ _)).2
              go_simp
              refine hK _ _ ⟨⟨⟨_, HB1.out⟩, rfl⟩, ?_⟩
              clear hK K
              obtain ⟨X1, hX1⟩ : ∃ V, V = W3.alloc (.cells #[.int .i64 t, .int .i64 y] 28) := ⟨_, rfl⟩
              rw [← hX1]
              rw [← hX1] at HD1 HB1 HZ1 HE1
              clear hX1
              refine wpAnyN_one (i := 0) (by kernel_rfl) ?_
              refine wpOp_step rfl (fun K hK => ?_)
              rw [if_pos (by rfl)]
              have HD2 : Hid (Below X1.heap.size X1 (X1.alloc (.cells #[] 28))) := Lib.hid (box1 (Below.refl _ _)).1
              have HB2 : Hid (Below X0.heap.size X0 (X1.alloc (.cells #[] 28))) := Lib.hid (HB1.out.alloc HB1.out.size _)
              have HZ2 : Hid ((X1.alloc (.cells #[] 28)).heap.size = X1.heap.size + 1) := Lib.hid (World.size_alloc _ _)
              have HC2 : Hid (CS X0 [] (.slice (some ⟨X1.heap.size, 0, none⟩) 0 0) (X1.alloc (.cells #[] 28))) := Lib.hid ⟨World.ownsRow_made X1 #[] 0 HB1.out.size (by unfold maxLen; omega) (by simp), HB2.out⟩
              go_simp
              refine hK _ _ ⟨⟨⟨_, HB2.out⟩, rfl⟩, ?_⟩
              clear hK K
              obtain ⟨X2, hX2⟩ : ∃ V, V = X1.alloc (.cells #[] 28) := ⟨_, rfl⟩
              rw [← hX2]
              rw [← hX2] at HD2 HB2 HZ2 HC2
              clear hX2
              have HE2 := Lib.hid (HE1.out.next HD2.out)
              refine wpAnyN_one (i := 5) (by kernel_rfl) ?_
              refine wpOp_step rfl (fun K hK => ?_)
              rw [if_pos (by rfl)]
              refine wp_append_own _ _ _ 24 rfl X0.heap.size 28 i0 (.agg #[.int .i64 0, .int .i64 0]) 2 16 Try.underlying24 HI.out.1 HI.out.2.1 HI.out.2.2.1 HI.out.2.2.2 rfl (by decide) _ _ _ rfl HC2.out.1 ⟨b, o, none⟩ l.length l.length (cells2 (l.take l.length)) rfl (by rw [cells2_len, HLT.out]) (HPA.out.next HC2.out.2) (cells2_one _) (Nat.le_trans HB5.out (by unfold maxLen; decide)) (by have := HB5.out; omega) HC2.out.2.size (fun v3 X3 hown hgrow _ => ?_)
              have HC3 : Hid (CS X0 ([] ++ (l.take l.length)) v3 X3) := Lib.hid (cs_step HC2.out (by rw [HLT.out]; exact hown) hgrow)
              have HE3 := Lib.hid (has_grown HE2.out hgrow (fun q => by have q2 : W3.heap.size = X1.heap.size := Option.some.inj q; have q3 := HZ1.out; omega))
              clear hown hgrow
              refine hK _ _ ⟨⟨⟨_, HC3.out.2⟩, rfl⟩, ?_⟩
              clear hK K
              refine wpAnyN_one (i := 8) (by kernel_rfl) ?_
              refine wpOp_step rfl (fun K hK => ?_)
              rw [if_pos (by rfl)]
              refine wp_append_own _ _ _ 24 rfl X0.heap.size 28 i0 (.agg #[.int .i64 0, .int .i64 0]) 2 16 Try.underlying24 HI.out.1 HI.out.2.1 HI.out.2.2.1 HI.out.2.2.2 rfl (by decide) _ _ _ rfl HC3.out.1 ⟨W3.heap.size, 0, none⟩ 1 1 (cells2 [(t, y)]) rfl (cells2_len _) (part_of_has HE3.out) (cells2_one _) (Nat.le_trans HB8.out (by unfold maxLen; decide)) (by have := HB8.out; omega) HC3.out.2.size (fun v4 X4 hown hgrow _ => ?_)
              have HC4 : Hid (CS X0 ([] ++ (l.take l.length) ++ [(t, y)]) v4 X4) := Lib.hid (cs_step HC3.out (by exact hown) hgrow)
              clear hown hgrow
              refine hK _ _ ⟨⟨⟨_, HC4.out.2⟩, rfl⟩, ?_⟩
              clear hK K
              refine wpAnyN_one (i := 10) (by kernel_rfl) ?_
              refine wpOp_step rfl (fun K hK => ?_)
              rw [if_pos (by rfl)]
              refine wp_append_own _ _ _ 24 rfl X0.heap.size 28 i0 (.agg #[.int .i64 0, .int .i64 0]) 2 16 Try.underlying24 HI.out.1 HI.out.2.1 HI.out.2.2.1 HI.out.2.2.2 rfl (by decide) _ _ _ rfl HC4.out.1 O3 0 0 (cells2 L3) rfl (by rw [cells2_len, HL3.out]) (HP3.out.next HC4.out.2) (cells2_one _) (Nat.le_trans HB10.out (by unfold maxLen; decide)) (by have := HB10.out; omega) HC4.out.2.size (fun v5 X5 hown hgrow _ => ?_)
              have HC5 : Hid (CS X0 ([] ++ (l.take l.length) ++ [(t, y)] ++ L3) v5 X5) := Lib.hid (cs_step HC4.out (by rw [HL3.out]; exact hown) hgrow)
              clear hown hgrow
              refine hK _ _ ⟨⟨⟨_, HC5.out.2⟩, rfl⟩, ?_⟩
              clear hK K
              refine wpAnyN_end rfl (by kernel_rfl) rfl ?_
              simp only [List.drop_succ_cons, List.drop_zero]
              have HCF : Hid (CS X0 (adR l t y) v5 X5) := Lib.hid (by rw [HADL.out]; exact HC5.out)
              obtain ⟨A5, c5, rfl⟩ := own_slice HCF.out.1
              have HXF := Lib.hid (HXB.out.next HCF.out.2)
              have p3 := HXF.out.at_ 3 _ rfl
              have pf3 := HXF.out.free 3
              go_wp2_with fail
              go_meet
              exact ⟨rfl, A5, c5, cut_of HCF.out HXF.out HBX.out HWS.out⟩
          case rest =>
            obtain ⟨rfl, A5, c5, HW⟩ := hcut
            have HSY := Lib.hid (HW.out.2.1.spots (Nat.le_refl _))
            have HBZ := Lib.hid (bthen HBX2.out HW.out.2.2.2 HBX2.out.size)
            have HZY := Lib.hid (HZX.out.next HW.out.2.2.2)
            have HOY := Lib.hid (HW.out.2.1.wide (lo' := w.heap.size + 3) (by have := HZX.out.1; omega) (Nat.le_refl _))
            have HLN : Hid ((adR l t y).length ≤ maxLen) := by
              have h1 := HADL.out
              have h2 := HL3.out
              have h3 := HB10.out
              unfold Hid maxLen
              rw [h1, List.length_append, h2]
              exact Nat.le_trans h3 (by decide)
            have p0 := HW.out.1.at_ 0 _ rfl
            have p1 := HW.out.1.at_ 1 _ rfl
            have p2 := HW.out.1.at_ 2 _ rfl
            have p3 := HW.out.1.at_ 3 _ rfl
            rcases hk2 : gaugeB id nm ze (adR l t y) with _ | _
            · have HG2' := Lib.hid hk2
              have HR2' : Hid (adK id ze nm l t y = false) := by unfold Hid adK; rw [hk2, Bool.and_false]
              clear hk2
              go_wp2_with fail
              refine (one_v _ _ _ _ _ _ (adR l t y) _ HG2'.out _ HSY.out HLN.out hn).mono ?_
              rintro e w6 ⟨rfl, hb⟩
              have HN := Lib.hid (And.intro (bthen HBZ.out hb HBZ.out.size) (HZY.out.next hb))
              clear hb p0 p1 p2 p3
              have z0 := HN.out.2.at_ 0 _ rfl
              have z1 := HN.out.2.at_ 1 _ rfl
              have z2 := HN.out.2.at_ 2 _ rfl
              have z3 := HN.out.2.at_ 3 _ rfl
              have zf0 := HN.out.2.free 0
              have zf1 := HN.out.2.free 1
              have zf2 := HN.out.2.free 2
              have zf3 := HN.out.2.free 3
              go_wp2_with fail
              refine bodyPost_ret (v := .tuple #[.agg #[.int .i64 0, .string ⟨#[]⟩, .int .i64 0, .slice none 0 0], .bool false]) (by simp [results, Try.results8, go_sem, z0, z1, z2, z3]) rfl (ad_no HR2'.out ?_)
              repeat (first | exact HN.out.1 | refine Below.setCell ?_ (by simp; try omega) _)
            · have HG2' := Lib.hid hk2
              have HR2' : Hid (adK id ze nm l t y = true) := by unfold Hid adK; rw [HG.out, hk2]; rfl
              clear hk2
              go_wp2_with fail
              refine (one_v _ _ _ _ _ _ (adR l t y) _ HG2'.out _ HSY.out HLN.out hn).mono ?_
              rintro e w6 ⟨rfl, hb⟩
              have HN := Lib.hid (And.intro (bthen HBZ.out hb HBZ.out.size) (And.intro (HZY.out.next hb) (And.intro (HW.out.1.next hb) (And.intro (HOY.out.on hb (Nat.le_refl _)) hb.size))))
              clear hb p0 p1 p2 p3
              have z0 := HN.out.2.1.at_ 0 _ rfl
              have z1 := HN.out.2.1.at_ 1 _ rfl
              have z2 := HN.out.2.1.at_ 2 _ rfl
              have z3 := HN.out.2.1.at_ 3 _ rfl
              have zf0 := HN.out.2.1.free 0
              have zf1 := HN.out.2.1.free 1
              have zf2 := HN.out.2.1.free 2
              have zf3 := HN.out.2.1.free 3
              have p0 := HN.out.2.2.1.at_ 0 _ rfl
              have p1 := HN.out.2.2.1.at_ 1 _ rfl
              have p2 := HN.out.2.2.1.at_ 2 _ rfl
              have p3 := HN.out.2.2.1.at_ 3 _ rfl
              go_wp2_with fail
              refine bodyPost_ret (v := .tuple #[.agg #[.int .i64 id, .string nm, .int .i64 ze, .slice A5 (adR l t y).length c5], .bool true]) (by simp [results, Try.results8, go_sem, z0, z1, z2, z3]) rfl (ad_yes HR2'.out ?_ HW.out.2.2.1 ?_)
              · refine ((((HN.out.2.2.2.1.put _ _ ?_).put _ _ ?_).put _ _ ?_).put _ _ ?_).wide ?_ ?_
                all_goals (try simp [World.setCell])
                all_goals (have := HN.out.2.2.2.2; try omega)
              · repeat (first | exact HN.out.1 | refine Below.setCell ?_ (by simp; try omega) _)
        · go_wp2_with fail
          have lc0 := lcell (g3')
          have lc1 := lcell (r0')
          refine region_later (W := W1) (by kernel_rfl) (by kernel_rfl) (Below.refl _ _) ?_
          repeat (go_big_quiet_step (fail))
          refine wpQuiet_nil ?_
          intro W2 hW1
          have HL : Hid (Below W1.heap.size W1 W2) := by obtain ⟨x, rfl⟩ := hW1; exact Lib.hid x.below
          clear hW1 lc0 lc1
          have HGX := Lib.hid (HG1.out.next (bthen HT.out HL.out HT.out.size))
          have HRX := Lib.hid (HR1.out.next (bthen HT.out HL.out HT.out.size))
          have HZX := Lib.hid (HZ1.out.next (bthen HT.out HL.out HT.out.size))
          have HBX2 := Lib.hid (bthen HB1.out (bthen HT.out HL.out HT.out.size) HB1.out.size)
          have HSX := Lib.hid (spots_more HS1.out (bthen HT.out HL.out HT.out.size))
          have g0 := HGX.out.at_ 0 _ rfl
          have g1 := HGX.out.at_ 1 _ rfl
          have g2 := HGX.out.at_ 2 _ rfl
          have g3 := HGX.out.at_ 3 _ rfl
          have hdl : (l.drop l.length).length = 0 := by rw [List.length_drop]; omega
          clear g3' r0'
          go_wp2_with fail
          obtain ⟨X0, hX0⟩ : ∃ X0, X0 = W2.alloc (.cells #[.int .i64 id, .string nm, .int .i64 ze, .slice (some ⟨b, o, none⟩) l.length c] 26) := ⟨_, rfl⟩
          have HBX : Hid (Below W2.heap.size W2 X0) := by rw [hX0]; exact Lib.hid (box1 (Below.refl _ _)).1
          have HXB : Hid (Has X0 W2.heap.size [.int .i64 id, .string nm, .int .i64 ze, .slice (some ⟨b, o, none⟩) l.length c]) := by rw [hX0]; exact Lib.hid (box1 (Below.refl _ _)).2
          have HWS := Lib.hid HXB.out.1
          rw [← hX0]
          clear hX0 g0 g1 g2 g3
          obtain ⟨O3, hO3⟩ : ∃ O3 : Addr, O3 = ⟨b, o + l.length * 2, none⟩ := ⟨_, rfl⟩
          obtain ⟨C3, hC3⟩ : ∃ C3, C3 = c - l.length := ⟨_, rfl⟩
          obtain ⟨L3, hL3⟩ : ∃ L3, L3 = l.drop (l.length) := ⟨_, rfl⟩
          rw [← hO3, ← hC3]
          have HADL : Hid (adR l t y = l.take l.length ++ [(t, y)] ++ L3) := by unfold Hid adR adL; rw [lb_is HLB.out, HE.out, hL3]
          have HPA := Lib.hid ((part_take (part_of_spots HSX.out) l.length).next HBX.out)
          have HP3 : Hid (Part X0 O3 L3) := Lib.hid (fun j u hu => by have hj := (List.getElem?_eq_some_iff.1 hu).1; rw [cells2_len, hL3, hdl] at hj; omega)
          have HL3 : Hid (L3.length = 0) := Lib.hid (by rw [hL3]; exact hdl)
          have HLT : Hid ((l.take l.length).length = l.length) := Lib.hid (by rw [List.length_take]; omega)
          have HB5 : Hid (([] : List (Int × Int)).length + l.length ≤ 100) := Lib.hid (by simp; omega)
          have HB8 : Hid (([] ++ l.take l.length : List (Int × Int)).length + 1 ≤ 100) := Lib.hid (by simp; omega)
          have HB10 : Hid (([] ++ l.take l.length ++ [(t, y)] : List (Int × Int)).length + 0 ≤ 100) := Lib.hid (by have := HN3.out; simp; omega)
          clear hO3 hC3 hL3 hdl
          go_cut [8] (fun p wx => p = .pointer (some ⟨W2.heap.size, 0, none⟩) ∧ ∃ (A5 : Option Addr) (c5 : Nat), Hid (CutP W2 id ze nm (adR l t y) A5 c5 wx))
          case first =>
            have lc0 := lcell ((HGX.out.next HBX.out).at_ 3 _ rfl)
            have lc1 := lcell ((HRX.out.next HBX.out).at_ 0 _ rfl)
            have lc2 := lcell ((HRX.out.next HBX.out).at_ 1 _ rfl)
            refine region_reads (W := X0) 11 7 [1, 2, 3, 4, 6, 9] (by kernel_rfl) (by kernel_rfl) rfl (Below.refl _ _) (fun d _ _ _ _ h => by cases d <;> exact h) ?_
            simp only [picks, List.getElem?_cons_succ, List.getElem?_cons_zero]
            repeat (go_big_quiet_step (fail))
            refine wpQuiet_nil ?_
            intro W3 hW1
            have HLX : Hid (Below X0.heap.size X0 W3) := by obtain ⟨x, rfl⟩ := hW1; exact Lib.hid x.below
            clear hW1 lc0 lc1 lc2
            refine wpAnyN_two (i := 0) (i' := 7) (by kernel_rfl) ?_ ?_
            · skip
              refine wpOp_step rfl (fun K hK => ?_)
              rw [if_pos (by rfl)]
              have HD1 : Hid (Below W3.heap.size W3 (W3.alloc (.cells #[] 28))) := Lib.hid (box1 (Below.refl _ _)).1
              have HB1 : Hid (Below X0.heap.size X0 (W3.alloc (.cells #[] 28))) := Lib.hid (HLX.out.alloc HLX.out.size _)
              have HZ1 : Hid ((W3.alloc (.cells #[] 28)).heap.size = W3.heap.size + 1) := Lib.hid (World.size_alloc _ _)
              have HC1 : Hid (CS X0 [] (.slice (some ⟨W3.heap.size, 0, none⟩) 0 0) (W3.alloc (.cells #[] 28))) := Lib.hid ⟨World.ownsRow_made W3 #[] 0 HLX.out.size (by unfold maxLen; omega) (by simp), HB1.out⟩
              go_simp
              refine hK _ _ ⟨⟨⟨_, HB1.out⟩, rfl⟩, ?_⟩
              clear hK K
              obtain ⟨X1, hX1⟩ : ∃ V, V = W3.alloc (.cells #[] 28) := ⟨_, rfl⟩
              rw [← hX1]
              rw [← hX1] at HD1 HB1 HZ1 HC1
              clear hX1
              refine wpAnyN_two (i := 5) (i' := 7) (by kernel_rfl) ?_ ?_
              · skip
                refine wpOp_step rfl (fun K hK => ?_)
                rw [if_pos (by rfl)]
                refine wp_append_own _ _ _ 24 rfl X0.heap.size 28 i0 (.agg #[.int .i64 0, .int .i64 0]) 2 16 Try.underlying24 HI.out.1 HI.out.2.1 HI.out.2.2.1 HI.out.2.2.2 rfl (by decide) _ _ _ rfl HC1.out.1 ⟨b, o, none⟩ l.length c (cells2 (l.take l.length)) rfl (by rw [cells2_len, HLT.out]) (HPA.out.next HC1.out.2) (cells2_one _) (Nat.le_trans HB5.out (by unfold maxLen; decide)) (by have := HB5.out; omega) HC1.out.2.size (fun v2 X2 hown hgrow _ => ?_)
                have HC2 : Hid (CS X0 ([] ++ (l.take l.length)) v2 X2) := Lib.hid (cs_step HC1.out (by rw [HLT.out]; exact hown) hgrow)
                clear hown hgrow
                refine hK _ _ ⟨⟨⟨_, HC2.out.2⟩, rfl⟩, ?_⟩
                clear hK K
                have HBx2 := Lib.hid HC2.out.2
                refine wpAnyN_one (i := 7) (by kernel_rfl) ?_
                refine wpOp_step rfl (fun K hK => ?_)
                rw [if_pos (by rfl)]
                have HD3 : Hid (Below X2.heap.size X2 (X2.alloc (.cells #[.int .i64 t, .int .i64 y] 28))) := Lib.hid (box1 (Below.refl _ _)).1
                have HB3 : Hid (Below X0.heap.size X0 (X2.alloc (.cells #[.int .i64 t, .int .i64 y] 28))) := Lib.hid (HBx2.out.alloc HBx2.out.size _)
                have HZ3 : Hid ((X2.alloc (.cells #[.int .i64 t, .int .i64 y] 28)).heap.size = X2.heap.size + 1) := Lib.hid (World.size_alloc _ _)
                have HE3 : Hid (Has (X2.alloc (.cells #[.int .i64 t, .int .i64 y] 28)) X2.heap.size [.int .i64 t, .int .i64 y]) := Lib.hid (box1 (Below.refl _ _)).2
                go_simp
                refine hK _ _ ⟨⟨⟨_, HB3.out⟩, rfl⟩, ?_⟩
                clear hK K
                obtain ⟨X3, hX3⟩ : ∃ V, V = X2.alloc (.cells #[.int .i64 t, .int .i64 y] 28) := ⟨_, rfl⟩
                rw [← hX3]
                rw [← hX3] at HD3 HB3 HZ3 HE3
                clear hX3
                have HC3 : Hid (CS X0 ([] ++ (l.take l.length)) v2 X3) := Lib.hid ⟨own_below HC2.out.1 HD3.out, HB3.out⟩
                refine wpAnyN_one (i := 8) (by kernel_rfl) ?_
                refine wpOp_step rfl (fun K hK => ?_)
                rw [if_pos (by rfl)]
                refine wp_append_own _ _ _ 24 rfl X0.heap.size 28 i0 (.agg #[.int .i64 0, .int .i64 0]) 2 16 Try.underlying24 HI.out.1 HI.out.2.1 HI.out.2.2.1 HI.out.2.2.2 rfl (by decide) _ _ _ rfl HC3.out.1 ⟨X2.heap.size, 0, none⟩ 1 1 (cells2 [(t, y)]) rfl (cells2_len _) (part_of_has HE3.out) (cells2_one _) (Nat.le_trans HB8.out (by unfold maxLen; decide)) (by have := HB8.out; omega) HC3.out.2.size (fun v4 X4 hown hgrow _ => ?_)
                have HC4 : Hid (CS X0 ([] ++ (l.take l.length) ++ [(t, y)]) v4 X4) := Lib.hid (cs_step HC3.out (by exact hown) hgrow)
                clear hown hgrow
                refine hK _ _ ⟨⟨⟨_, HC4.out.2⟩, rfl⟩, ?_⟩
                clear hK K
                refine wpAnyN_one (i := 10) (by kernel_rfl) ?_
                refine wpOp_step rfl (fun K hK => ?_)
                rw [if_pos (by rfl)]
                refine wp_append_own _ _ _ 24 rfl X0.heap.size 28 i0 (.agg #[.int .i64 0, .int .i64 0]) 2 16 Try.underlying24 HI.out.1 HI.out.2.1 HI.out.2.2.1 HI.out.2.2.2 rfl (by decide) _ _ _ rfl HC4.out.1 O3 0 C3 (cells2 L3) rfl (by rw [cells2_len, HL3.out]) (HP3.out.next HC4.out.2) (cells2_one _) (Nat.le_trans HB10.out (by unfold maxLen; decide)) (by have := HB10.out; omega) HC4.out.2.size (fun v5 X5 hown hgrow _ => ?_)
                have HC5 : Hid (CS X0 ([] ++ (l.take l.length) ++ [(t, y)] ++ L3) v5 X5) := Lib.hid (cs_step HC4.out (by rw [HL3.out]; exact hown) hgrow)
                clear hown hgrow
                refine hK _ _ ⟨⟨⟨_, HC5.out.2⟩, rfl⟩, ?_⟩
                clear hK K
                refine wpAnyN_end rfl (by kernel_rfl) rfl ?_
                simp only [List.drop_succ_cons, List.drop_zero]
                have HCF : Hid (CS X0 (adR l t y) v5 X5) := Lib.hid (by rw [HADL.out]; exact HC5.out)
                obtain ⟨A5, c5, rfl⟩ := own_slice HCF.out.1
                have HXF := Lib.hid (HXB.out.next HCF.out.2)
                have p3 := HXF.out.at_ 3 _ rfl
                have pf3 := HXF.out.free 3
                go_wp2_with fail
                go_meet
                exact ⟨rfl, A5, c5, cut_of HCF.out HXF.out HBX.out HWS.out⟩
              · skip
                refine wpOp_step rfl (fun K hK => ?_)
                rw [if_pos (by rfl)]
                have HD2 : Hid (Below X1.heap.size X1 (X1.alloc (.cells #[.int .i64 t, .int .i64 y] 28))) := Lib.hid (box1 (Below.refl _ _)).1
                have HB2 : Hid (Below X0.heap.size X0 (X1.alloc (.cells #[.int .i64 t, .int .i64 y] 28))) := Lib.hid (HB1.out.alloc HB1.out.size _)
                have HZ2 : Hid ((X1.alloc (.cells #[.int .i64 t, .int .i64 y] 28)).heap.size = X1.heap.size + 1) := Lib.hid (World.size_alloc _ _)
                have HE2 : Hid (Has (X1.alloc (.cells #[.int .i64 t, .int .i64 y] 28)) X1.heap.size [.int .i64 t, .int .i64 y]) := Lib.hid (box1 (Below.refl _ _)).2
                go_simp
                refine hK _ _ ⟨⟨⟨_, HB2.out⟩, rfl⟩, ?_⟩
                clear hK K
                obtain ⟨X2, hX2⟩ : ∃ V, V = X1.alloc (.cells #[.int .i64 t, .int .i64 y] 28) := ⟨_, rfl⟩
                rw [← hX2]
                rw [← hX2] at HD2 HB2 HZ2 HE2
                clear hX2
                have HC2 : Hid (CS X0 [] (.slice (some ⟨W3.heap.size, 0, none⟩) 0 0) X2) := Lib.hid ⟨own_below HC1.out.1 HD2.out, HB2.out⟩
                refine wpAnyN_one (i := 5) (by kernel_rfl) ?_
                refine wpOp_step rfl (fun K hK => ?_)
                rw [if_pos (by rfl)]
                refine wp_append_own _ _ _ 24 rfl X0.heap.size 28 i0 (.agg #[.int .i64 0, .int .i64 0]) 2 16 Try.underlying24 HI.out.1 HI.out.2.1 HI.out.2.2.1 HI.out.2.2.2 rfl (by decide) _ _ _ rfl HC2.out.1 ⟨b, o, none⟩ l.length c (cells2 (l.take l.length)) rfl (by rw [cells2_len, HLT.out]) (HPA.out.next HC2.out.2) (cells2_one _) (Nat.le_trans HB5.out (by unfold maxLen; decide)) (by have := HB5.out; omega) HC2.out.2.size (fun v3 X3 hown hgrow _ => ?_)
                have HC3 : Hid (CS X0 ([] ++ (l.take l.length)) v3 X3) := Lib.hid (cs_step HC2.out (by rw [HLT.out]; exact hown) hgrow)
                have HE3 := Lib.hid (has_grown HE2.out hgrow (fun q => by have q2 : X1.heap.size = W3.heap.size := Option.some.inj q; have q3 := HZ1.out; omega))
                clear hown hgrow
                refine hK _ _ ⟨⟨⟨_, HC3.out.2⟩, rfl⟩, ?_⟩
                clear hK K
                refine wpAnyN_one (i := 8) (by kernel_rfl) ?_
                refine wpOp_step rfl (fun K hK => ?_)
                rw [if_pos (by rfl)]
                refine wp_append_own _ _ _ 24 rfl X0.heap.size 28 i0 (.agg #[.int .i64 0, .int .i64 0]) 2 16 Try.underlying24 HI.out.1 HI.out.2.1 HI.out.2.2.1 HI.out.2.2.2 rfl (by decide) _ _ _ rfl HC3.out.1 ⟨X1.heap.size, 0, none⟩ 1 1 (cells2 [(t, y)]) rfl (cells2_len _) (part_of_has HE3.out) (cells2_one _) (Nat.le_trans HB8.out (by unfold maxLen; decide)) (by have := HB8.out; omega) HC3.out.2.size (fun v4 X4 hown hgrow _ => ?_)
                have HC4 : Hid (CS X0 ([] ++ (l.take l.length) ++ [(t, y)]) v4 X4) := Lib.hid (cs_step HC3.out (by exact hown) hgrow)
                clear hown hgrow
                refine hK _ _ ⟨⟨⟨_, HC4.out.2⟩, rfl⟩, ?_⟩
                clear hK K
                refine wpAnyN_one (i := 10) (by kernel_rfl) ?_
                refine wpOp_step rfl (fun K hK => ?_)
                rw [if_pos (by rfl)]
                refine wp_append_own _ _ _ 24 rfl X0.heap.size 28 i0 (.agg #[.int .i64 0, .int .i64 0]) 2 16 Try.underlying24 HI.out.1 HI.out.2.1 HI.out.2.2.1 HI.out.2.2.2 rfl (by decide) _ _ _ rfl HC4.out.1 O3 0 C3 (cells2 L3) rfl (by rw [cells2_len, HL3.out]) (HP3.out.next HC4.out.2) (cells2_one _) (Nat.le_trans HB10.out (by unfold maxLen; decide)) (by have := HB10.out; omega) HC4.out.2.size (fun v5 X5 hown hgrow _ => ?_)
                have HC5 : Hid (CS X0 ([] ++ (l.take l.length) ++ [(t, y)] ++ L3) v5 X5) := Lib.hid (cs_step HC4.out (by rw [HL3.out]; exact hown) hgrow)
                clear hown hgrow
                refine hK _ _ ⟨⟨⟨_, HC5.out.2⟩, rfl⟩, ?_⟩
                clear hK K
                refine wpAnyN_end rfl (by kernel_rfl) rfl ?_
                simp only [List.drop_succ_cons, List.drop_zero]
                have HCF : Hid (CS X0 (adR l t y) v5 X5) := Lib.hid (by rw [HADL.out]; exact HC5.out)
                obtain ⟨A5, c5, rfl⟩ := own_slice HCF.out.1
                have HXF := Lib.hid (HXB.out.next HCF.out.2)
                have p3 := HXF.out.at_ 3 _ rfl
                have pf3 := HXF.out.free 3
                go_wp2_with fail
                go_meet
                exact ⟨rfl, A5, c5, cut_of HCF.out HXF.out HBX.out HWS.out⟩
            · skip
              refine wpOp_step rfl (fun K hK => ?_)
              rw [if_pos (by rfl)]
              have HD1 : Hid (Below W3.heap.size W3 (W3.alloc (.cells #[.int .i64 t, .int .i64 y] 28))) := Lib.hid (box1 (Below.refl _ _)).1
              have HB1 : Hid (Below X0.heap.size X0 (W3.alloc (.cells #[.int .i64 t, .int .i64 y] 28))) := Lib.hid (HLX.out.alloc HLX.out.size _)
              have HZ1 : Hid ((W3.alloc (.cells #[.int .i64 t, .int .i64 y] 28)).heap.size = W3.heap.size + 1) := Lib.hid (World.size_alloc _ _)
              have HE1 : Hid (Has (W3.alloc (.cells #[.int .i64 t, .int .i64 y] 28)) W3.heap.size [.int .i64 t, .int .i64 y]) := Lib.hid (box1 (Below.refl _ _)).2
              go_simp
              refine hK _ _ ⟨⟨⟨_, HB1.out⟩, rfl⟩, ?_⟩
              clear hK K
              obtain ⟨X1, hX1⟩ : ∃ V, V = W3.alloc (.cells #[.int .i64 t, .int .i64 y] 28) := ⟨_, rfl⟩
              rw [← hX1]
              rw [← hX1] at HD1 HB1 HZ1 HE1
              clear hX1
              refine wpAnyN_one (i := 0) (by kernel_rfl) ?_
              refine wpOp_step rfl (fun K hK => ?_)
              rw [if_pos (by rfl)]
              have HD2 : Hid (Below X1.heap.size X1 (X1.alloc (.cells #[] 28))) := Lib.hid (box1 (Below.refl _ _)).1
              have HB2 : Hid (Below X0.heap.size X0 (X1.alloc (.cells #[] 28))) := Lib.hid (HB1.out.alloc HB1.out.size _)
              have HZ2 : Hid ((X1.alloc (.cells #[] 28)).heap.size = X1.heap.size + 1) := Lib.hid (World.size_alloc _ _)
              have HC2 : Hid (CS X0 [] (.slice (some ⟨X1.heap.size, 0, none⟩) 0 0) (X1.alloc (.cells #[] 28))) := Lib.hid ⟨World.ownsRow_made X1 #[] 0 HB1.out.size (by unfold maxLen; omega) (by simp), HB2.out⟩
              go_simp
              refine hK _ _ ⟨⟨⟨_, HB2.out⟩, rfl⟩, ?_⟩
              clear hK K
              obtain ⟨X2, hX2⟩ : ∃ V, V = X1.alloc (.cells #[] 28) := ⟨_, rfl⟩
              rw [← hX2]
              rw [← hX2] at HD2 HB2 HZ2 HC2
              clear hX2
              have HE2 := Lib.hid (HE1.out.next HD2.out)
              refine wpAnyN_one (i := 5) (by kernel_rfl) ?_
              refine wpOp_step rfl (fun K hK => ?_)
              rw [if_pos (by rfl)]
              refine wp_append_own _ _ _ 24 rfl X0.heap.size 28 i0 (.agg #[.int .i64 0, .int .i64 0]) 2 16 Try.underlying24 HI.out.1 HI.out.2.1 HI.out.2.2.1 HI.out.2.2.2 rfl (by decide) _ _ _ rfl HC2.out.1 ⟨b, o, none⟩ l.length c (cells2 (l.take l.length)) rfl (by rw [cells2_len, HLT.out]) (HPA.out.next HC2.out.2) (cells2_one _) (Nat.le_trans HB5.out (by unfold maxLen; decide)) (by have := HB5.out; omega) HC2.out.2.size (fun v3 X3 hown hgrow _ => ?_)
              have HC3 : Hid (CS X0 ([] ++ (l.take l.length)) v3 X3) := Lib.hid (cs_step HC2.out (by rw [HLT.out]; exact hown) hgrow)
              have HE3 := Lib.hid (has_grown HE2.out hgrow (fun q => by have q2 : W3.heap.size = X1.heap.size := Option.some.inj q; have q3 := HZ1.out; omega))
              clear hown hgrow
              refine hK _ _ ⟨⟨⟨_, HC3.out.2⟩, rfl⟩, ?_⟩
              clear hK K
              refine wpAnyN_one (i := 8) (by kernel_rfl) ?_
              refine wpOp_step rfl (fun K hK => ?_)
              rw [if_pos (by rfl)]
              refine wp_append_own _ _ _ 24 rfl X0.heap.size 28 i0 (.agg #[.int .i64 0, .int .i64 0]) 2 16 Try.underlying24 HI.out.1 HI.out.2.1 HI.out.2.2.1 HI.out.2.2.2 rfl (by decide) _ _ _ rfl HC3.out.1 ⟨W3.heap.size, 0, none⟩ 1 1 (cells2 [(t, y)]) rfl (cells2_len _) (part_of_has HE3.out) (cells2_one _) (Nat.le_trans HB8.out (by unfold maxLen; decide)) (by have := HB8.out; omega) HC3.out.2.size (fun v4 X4 hown hgrow _ => ?_)
              have HC4 : Hid (CS X0 ([] ++ (l.take l.length) ++ [(t, y)]) v4 X4) := Lib.hid (cs_step HC3.out (by exact hown) hgrow)
              clear hown hgrow
              refine hK _ _ ⟨⟨⟨_, HC4.out.2⟩, rfl⟩, ?_⟩
              clear hK K
              refine wpAnyN_one (i := 10) (by kernel_rfl) ?_
              refine wpOp_step rfl (fun K hK => ?_)
              rw [if_pos (by rfl)]
              refine wp_append_own _ _ _ 24 rfl X0.heap.size 28 i0 (.agg #[.int .i64 0, .int .i64 0]) 2 16 Try.underlying24 HI.out.1 HI.out.2.1 HI.out.2.2.1 HI.out.2.2.2 rfl (by decide) _ _ _ rfl HC4.out.1 O3 0 C3 (cells2 L3) rfl (by rw [cells2_len, HL3.out]) (HP3.out.next HC4.out.2) (cells2_one _) (Nat.le_trans HB10.out (by unfold maxLen; decide)) (by have := HB10.out; omega) HC4.out.2.size (fun v5 X5 hown hgrow _ => ?_)
              have HC5 : Hid (CS X0 ([] ++ (l.take l.length) ++ [(t, y)] ++ L3) v5 X5) := Lib.hid (cs_step HC4.out (by rw [HL3.out]; exact hown) hgrow)
              clear hown hgrow
              refine hK _ _ ⟨⟨⟨_, HC5.out.2⟩, rfl⟩, ?_⟩
              clear hK K
              refine wpAnyN_end rfl (by kernel_rfl) rfl ?_
              simp only [List.drop_succ_cons, List.drop_zero]
              have HCF : Hid (CS X0 (adR l t y) v5 X5) := Lib.hid (by rw [HADL.out]; exact HC5.out)
              obtain ⟨A5, c5, rfl⟩ := own_slice HCF.out.1
              have HXF := Lib.hid (HXB.out.next HCF.out.2)
              have p3 := HXF.out.at_ 3 _ rfl
              have pf3 := HXF.out.free 3
              go_wp2_with fail
              go_meet
              exact ⟨rfl, A5, c5, cut_of HCF.out HXF.out HBX.out HWS.out⟩
          case rest =>
            obtain ⟨rfl, A5, c5, HW⟩ := hcut
            have HSY := Lib.hid (HW.out.2.1.spots (Nat.le_refl _))
            have HBZ := Lib.hid (bthen HBX2.out HW.out.2.2.2 HBX2.out.size)
            have HZY := Lib.hid (HZX.out.next HW.out.2.2.2)
            have HOY := Lib.hid (HW.out.2.1.wide (lo' := w.heap.size + 3) (by have := HZX.out.1; omega) (Nat.le_refl _))
            have HLN : Hid ((adR l t y).length ≤ maxLen) := by
              have h1 := HADL.out
              have h2 := HL3.out
              have h3 := HB10.out
              unfold Hid maxLen
              rw [h1, List.length_append, h2]
              exact Nat.le_trans h3 (by decide)
            have p0 := HW.out.1.at_ 0 _ rfl
            have p1 := HW.out.1.at_ 1 _ rfl
            have p2 := HW.out.1.at_ 2 _ rfl
            have p3 := HW.out.1.at_ 3 _ rfl
            rcases hk2 : gaugeB id nm ze (adR l t y) with _ | _
            · have HG2' := Lib.hid hk2
              have HR2' : Hid (adK id ze nm l t y = false) := by unfold Hid adK; rw [hk2, Bool.and_false]
              clear hk2
              go_wp2_with fail
              refine (one_v _ _ _ _ _ _ (adR l t y) _ HG2'.out _ HSY.out HLN.out hn).mono ?_
              rintro e w6 ⟨rfl, hb⟩
              have HN := Lib.hid (And.intro (bthen HBZ.out hb HBZ.out.size) (HZY.out.next hb))
              clear hb p0 p1 p2 p3
              have z0 := HN.out.2.at_ 0 _ rfl
              have z1 := HN.out.2.at_ 1 _ rfl
              have z2 := HN.out.2.at_ 2 _ rfl
              have z3 := HN.out.2.at_ 3 _ rfl
              have zf0 := HN.out.2.free 0
              have zf1 := HN.out.2.free 1
              have zf2 := HN.out.2.free 2
              have zf3 := HN.out.2.free 3
              go_wp2_with fail
              refine bodyPost_ret (v := .tuple #[.agg #[.int .i64 0, .string ⟨#[]⟩, .int .i64 0, .slice none 0 0], .bool false]) (by simp [results, Try.results8, go_sem, z0, z1, z2, z3]) rfl (ad_no HR2'.out ?_)
              repeat (first | exact HN.out.1 | refine Below.setCell ?_ (by simp; try omega) _)
            · have HG2' := Lib.hid hk2
              have HR2' : Hid (adK id ze nm l t y = true) := by unfold Hid adK; rw [HG.out, hk2]; rfl
              clear hk2
              go_wp2_with fail
              refine (one_v _ _ _ _ _ _ (adR l t y) _ HG2'.out _ HSY.out HLN.out hn).mono ?_
              rintro e w6 ⟨rfl, hb⟩
              have HN := Lib.hid (And.intro (bthen HBZ.out hb HBZ.out.size) (And.intro (HZY.out.next hb) (And.intro (HW.out.1.next hb) (And.intro (HOY.out.on hb (Nat.le_refl _)) hb.size))))
              clear hb p0 p1 p2 p3
              have z0 := HN.out.2.1.at_ 0 _ rfl
              have z1 := HN.out.2.1.at_ 1 _ rfl
              have z2 := HN.out.2.1.at_ 2 _ rfl
              have z3 := HN.out.2.1.at_ 3 _ rfl
              have zf0 := HN.out.2.1.free 0
              have zf1 := HN.out.2.1.free 1
              have zf2 := HN.out.2.1.free 2
              have zf3 := HN.out.2.1.free 3
              have p0 := HN.out.2.2.1.at_ 0 _ rfl
              have p1 := HN.out.2.2.1.at_ 1 _ rfl
              have p2 := HN.out.2.2.1.at_ 2 _ rfl
              have p3 := HN.out.2.2.1.at_ 3 _ rfl
              go_wp2_with fail
              refine bodyPost_ret (v := .tuple #[.agg #[.int .i64 id, .string nm, .int .i64 ze, .slice A5 (adR l t y).length c5], .bool true]) (by simp [results, Try.results8, go_sem, z0, z1, z2, z3]) rfl (ad_yes HR2'.out ?_ HW.out.2.2.1 ?_)
              · refine ((((HN.out.2.2.2.1.put _ _ ?_).put _ _ ?_).put _ _ ?_).put _ _ ?_).wide ?_ ?_
                all_goals (try simp [World.setCell])
                all_goals (have := HN.out.2.2.2.2; try omega)
              · repeat (first | exact HN.out.1 | refine Below.setCell ?_ (by simp; try omega) _)
end Go.Proofs.Ytlggcfeclbcfaaa
