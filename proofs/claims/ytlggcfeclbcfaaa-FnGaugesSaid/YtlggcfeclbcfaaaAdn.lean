/-
  The contracts of slices.Concat and impl.AddReading where the gauge's row is nil, over this translation. Conditions: stated at each theorem.
-/
import Derived.Test.YtlggcfeclbcfaaaAdd
import Derived.Deep.Upon
namespace Go.Proofs.Ytlggcfeclbcfaaa
open Go.RowKit

theorem wpList_nothing {ops : Array Oper} {rest : List Oper} {o : Oper} {a : Act} {W : World} {Q : Exit → Act → World → Prop} (hgd : o.guard = none) (s x : Operand) (ho : o.op = .call { callee := .builtin .append, args := #[s, x], argTypes := #[24, 24] })
    (R : Option Addr) (m cap : Nat) (hm : m ≤ cap) (hs : a.eval s = .slice R m cap) (hx : a.eval x = .slice none 0 0) (h : wpList Try.prog ops Q rest (a.put o.dst (.slice R m cap)) W) : wpList Try.prog ops Q (o :: rest) a W := by
  obtain ⟨i0, hi, _, _, _⟩ := info_parts infoReading3
  refine wpList_plain hgd fun K hK' => ?_
  have hrun := run_append_nothing (P := Try.prog) W 24 24 o.type 28 i0 Try.underlying24 hi R m cap hm (.slice none 0 0) (Src.ofNil (w := W) (size := i0.size) Try.underlying24 0)
  unfold Oper.wp
  simp [execOp, ho, resolve, invoke, builtin, hs, hx, hrun, Result.andThen]
  exact hK' _ _ h
set_option maxRecDepth 20000 in
set_option maxHeartbeats 3200000 in
theorem concat_nil (p : Nat) (a2 : Addr) (l2 : List (Int × Int)) (c2 cp : Nat) (w : World) (h0 : w.cell? ⟨p, 0, none⟩ = some (.slice none 0 0)) (h1 : w.cell? ⟨p, 1, none⟩ = some (.slice (some a2) l2.length c2)) (h2 : w.cell? ⟨p, 2, none⟩ = some (.slice none 0 0))
    (hp2 : Part w a2 l2) (hn : l2.length ≤ 1000) (hpos : 0 < l2.length) :
    Calls Try.prog 40 #[.slice (some ⟨p, 0, none⟩) 3 cp] w (CatPost l2 w) := by
  obtain ⟨i0, hi, hz0, hz1, hz2⟩ := info_parts infoReading3
  have HI := Lib.hid (And.intro hi (And.intro hz0 (And.intro hz1 hz2)))
  clear hi hz0 hz1 hz2
  have HP2 := Lib.hid hp2
  clear hp2
  go_enter Try.func40, Try.ntmps40
  go_wp2_with fail
  go_loop [3, 11] (fun s i => (i = .int .i64 0 ∧ s = .int .i64 0) ∨ (i = .int .i64 1 ∧ s = .int .i64 0) ∨ (i = .int .i64 2 ∧ s = .int .i64 (l2.length : Int)) ∨ (i = .int .i64 3 ∧ s = .int .i64 (l2.length : Int))) (fun _ i => 3 - (intOf i).toNat)
  case atStart => exact .inl ⟨rfl, rfl⟩
  case round =>
    rcases hrel with ⟨rfl, rfl⟩ | ⟨rfl, rfl⟩ | ⟨rfl, rfl⟩ | ⟨rfl, rfl⟩
    · go_wp2_with fail
      go_round
      case rel => exact .inr (.inl ⟨rfl, by first | rfl | simp⟩)
      case measure => simp [intOf]
    · go_wp2_with fail
      go_round
      case rel => exact .inr (.inr (.inl ⟨rfl, by first | rfl | simp⟩))
      case measure => simp [intOf]
    · go_wp2_with fail
      go_round
      case rel => exact .inr (.inr (.inr ⟨rfl, by first | rfl | simp⟩))
      case measure => simp [intOf]
    · skip
      have HG := Lib.hid (grow_any l2.length w hpos hn)
      go_wp2_with fail
      refine HG.out.mono ?_
      rintro e w1 ⟨cap, rfl, hown, hb⟩
      have HO := Lib.hid hown
      have HB := Lib.hid hb
      clear hown hb
      go_wp2_with fail
      have HC0 : Hid (CS w [] (.slice (some ⟨w.heap.size, 0, none⟩) 0 cap) w1) := Lib.hid ⟨HO.out, HB.out⟩
      go_loopw [6, 27] (fun s i wr => (i = .int .i64 0 ∧ Hid (CS w [] s wr)) ∨ (i = .int .i64 1 ∧ Hid (CS w [] s wr)) ∨ (i = .int .i64 2 ∧ Hid (CS w l2 s wr)) ∨ (i = .int .i64 3 ∧ Hid (CS w l2 s wr))) (fun _ i _ => 3 - (intOf i).toNat)
      case atStart => exact .inl ⟨rfl, HC0⟩
      case round =>
        rcases hrel with ⟨rfl, HC⟩ | ⟨rfl, HC⟩ | ⟨rfl, HC⟩ | ⟨rfl, HC⟩
        · have h0' := cell_next HC.out.2 h0
          obtain ⟨R, cap1, rfl⟩ := own_slice HC.out.1
          have HCP := Lib.hid (own_cap HC.out.1)
          go_wp2_with (at_builtin; go_loud (refine wpList_nothing rfl _ _ rfl R _ cap1 HCP.out rfl rfl ?_))
          go_roundw
          case rel => exact .inr (.inl ⟨rfl, HC⟩)
          case measure => simp [intOf]
        · have h1' := cell_next HC.out.2 h1
          go_wp2_with (at_builtin; go_loud (refine wpList_append_own _ rfl _ _ 24 rfl w.heap.size 28 i0 (.agg #[.int .i64 0, .int .i64 0]) 2 16 Try.underlying24 HI.out.1 HI.out.2.1 HI.out.2.2.1 HI.out.2.2.2 rfl (by decide) _ _ _ rfl HC.out.1 a2 l2.length c2 (cells2 l2) rfl (cells2_len l2) (HP2.out.next HC.out.2) (cells2_one l2) (by simp only [List.length_nil]; unfold maxLen; omega) (by simp only [List.length_nil]; omega) HC.out.2.size ?_; intro v' w5 hown' hgrow _; have HN := Lib.hid (cs_step HC.out hown' hgrow); rw [List.nil_append] at HN; clear hown' hgrow))
          go_roundw
          case rel => exact .inr (.inr (.inl ⟨rfl, HN⟩))
          case measure => simp [intOf]
        · have h2' := cell_next HC.out.2 h2
          obtain ⟨R, cap1, rfl⟩ := own_slice HC.out.1
          have HCP := Lib.hid (own_cap HC.out.1)
          go_wp2_with (at_builtin; go_loud (refine wpList_nothing rfl _ _ rfl R _ cap1 HCP.out rfl rfl ?_))
          go_roundw
          case rel => exact .inr (.inr (.inr ⟨rfl, HC⟩))
          case measure => simp [intOf]
        · go_wp2_with fail
          go_ret
          exact ⟨_, rfl, HC.out.1, HC.out.2⟩
theorem cat_nil (t y : Int) (W : World) :
    Calls Try.prog 40 #[.slice (some ⟨W.heap.size + 1, 0, none⟩) 3 3] ((W.alloc (.cells #[.int .i64 t, .int .i64 y] 28)).alloc (.cells #[.slice none 0 0, .slice (some ⟨W.heap.size, 0, none⟩) 1 1, .slice none 0 0] 24))
      (CatPost [(t, y)] ((W.alloc (.cells #[.int .i64 t, .int .i64 y] 28)).alloc (.cells #[.slice none 0 0, .slice (some ⟨W.heap.size, 0, none⟩) 1 1, .slice none 0 0] 24))) := by
  have hh1 : Has (W.alloc (.cells #[.int .i64 t, .int .i64 y] 28)) W.heap.size [.int .i64 t, .int .i64 y] := (box1 (Below.refl _ _)).2
  have hsz : (W.alloc (.cells #[.int .i64 t, .int .i64 y] 28)).heap.size = W.heap.size + 1 := World.size_alloc _ _
  obtain ⟨W1, hW1⟩ : ∃ W1, W1 = W.alloc (.cells #[.int .i64 t, .int .i64 y] 28) := ⟨_, rfl⟩
  rw [← hW1] at hh1 hsz
  rw [← hW1]
  have hb2 : Below W1.heap.size W1 (W1.alloc (.cells #[.slice none 0 0, .slice (some ⟨W.heap.size, 0, none⟩) 1 1, .slice none 0 0] 24)) := (box1 (Below.refl _ _)).1
  have hh2 : Has (W1.alloc (.cells #[.slice none 0 0, .slice (some ⟨W.heap.size, 0, none⟩) 1 1, .slice none 0 0] 24)) W1.heap.size [.slice none 0 0, .slice (some ⟨W.heap.size, 0, none⟩) 1 1, .slice none 0 0] := (box1 (Below.refl _ _)).2
  rw [hsz] at hh2
  refine concat_nil (W.heap.size + 1) ⟨W.heap.size, 0, none⟩ [(t, y)] 1 3 _ (hh2.at_ 0 _ rfl) (hh2.at_ 1 _ rfl) (hh2.at_ 2 _ rfl) ?_ (by simp) (by simp)
  refine Part.next (fun j u hu => ?_) hb2
  rcases j with _ | _ | j
  · exact hh1.at_ 0 u hu
  · exact hh1.at_ 1 u hu
  · cases hu
set_option maxRecDepth 20000 in
set_option maxHeartbeats 3200000 in
theorem add_impl_nil (id ze : Int) (nm : ByteArray) (t y : Int) (w : World) (hn : nm.size ≤ maxLen) :
    Calls Try.prog 7 #[.agg #[.int .i64 id, .string nm, .int .i64 ze, .slice none 0 0], .agg #[.int .i64 t, .int .i64 y]] w (AdPost id ze nm [] t y w) := by
  have hs : Spots w w.heap.size none 0 [] := ⟨rfl, fun k hk => absurd hk (by omega)⟩
  have hm : (0 : Nat) ≤ maxLen := by omega
  obtain ⟨U, hU⟩ : ∃ U, U = w.alloc (.cells #[.int .i64 id, .string nm, .int .i64 ze, .slice none 0 0] 26) := ⟨_, rfl⟩
  obtain ⟨X, hX⟩ : ∃ X, X = U.alloc (.cells #[.int .i64 t, .int .i64 y] 28) := ⟨_, rfl⟩
  obtain ⟨V, hV⟩ : ∃ V, V = X.alloc (.cells #[.int .i64 0, .string ⟨#[]⟩, .int .i64 0, .slice none 0 0] 26) := ⟨_, rfl⟩
  have HU : Hid (Below w.heap.size w U ∧ Has U w.heap.size [.int .i64 id, .string nm, .int .i64 ze, .slice none 0 0] ∧ U.heap.size = w.heap.size + 1) := by rw [hU]; exact ⟨(box1 (Below.refl _ _)).1, (box1 (Below.refl _ _)).2, World.size_alloc _ _⟩
  have HX : Hid (Below U.heap.size U X ∧ Has X U.heap.size [.int .i64 t, .int .i64 y] ∧ X.heap.size = U.heap.size + 1) := by rw [hX]; exact ⟨(box1 (Below.refl _ _)).1, (box1 (Below.refl _ _)).2, World.size_alloc _ _⟩
  have HV : Hid (Below X.heap.size X V ∧ Has V X.heap.size [.int .i64 0, .string ⟨#[]⟩, .int .i64 0, .slice none 0 0]) := by rw [hV]; exact ⟨(box1 (Below.refl _ _)).1, (box1 (Below.refl _ _)).2⟩
  have HVU : Hid (V = ((w.alloc (.cells #[.int .i64 id, .string nm, .int .i64 ze, .slice none 0 0] 26)).alloc (.cells #[.int .i64 t, .int .i64 y] 28)).alloc (.cells #[.int .i64 0, .string ⟨#[]⟩, .int .i64 0, .slice none 0 0] 26)) := by rw [hV, hX, hU]; rfl
  have HWX := Lib.hid (bthen HU.out.1 HX.out.1 HU.out.1.size)
  have HBV := Lib.hid (bthen HWX.out HV.out.1 HWX.out.size)
  have HSV := Lib.hid (spots_more hs HBV.out)
  have HGV := Lib.hid ((HU.out.2.1.next HX.out.1).next HV.out.1)
  have HRV : Hid (Has V (w.heap.size + 1) [.int .i64 t, .int .i64 y]) := by have h := HX.out.2.1.next HV.out.1; rw [HU.out.2.2] at h; exact Lib.hid h
  have HZV : Hid (Has V (w.heap.size + 2) [.int .i64 0, .string ⟨#[]⟩, .int .i64 0, .slice none 0 0]) := by have h := HV.out.2; rw [HX.out.2.2, HU.out.2.2] at h; exact Lib.hid h
  clear hs hV hX hU HU HX HV
  rcases hg : gaugeB id nm ze [] with _ | _
  · have HG := Lib.hid hg
    have HR : Hid (adK id ze nm [] t y = false) := by unfold Hid adK; rw [hg]; rfl
    clear hg
    go_enter Try.func7, Try.ntmps7
    go_wp2_with fail
    rw [← HVU.out]
    refine (isGauge_v _ _ _ _ _ _ [] _ HG.out _ HSV.out hm hn).mono ?_
    rintro e w1 ⟨rfl, hb⟩
    have HN := Lib.hid (And.intro (bthen HBV.out hb HBV.out.size) (HZV.out.next hb))
    clear hb
    have z0 := HN.out.2.at_ 0 _ rfl
    have z1 := HN.out.2.at_ 1 _ rfl
    have z2 := HN.out.2.at_ 2 _ rfl
    have z3 := HN.out.2.at_ 3 _ rfl
    have zf0 := HN.out.2.free 0
    have zf1 := HN.out.2.free 1
    have zf2 := HN.out.2.free 2
    have zf3 := HN.out.2.free 3
    go_wp2_with fail
    refine bodyPost_ret (v := .tuple #[.agg #[.int .i64 0, .string ⟨#[]⟩, .int .i64 0, .slice none 0 0], .bool false]) (by simp [results, Try.results7, go_sem, z0, z1, z2, z3]) rfl (ad_no HR.out ?_)
    repeat (first | exact HN.out.1 | refine Below.setCell ?_ (by simp; try omega) _)
  have HG := Lib.hid hg
  have HGG := Lib.hid (good_of_gauge hg)
  clear hg
  go_enter Try.func7, Try.ntmps7
  go_wp2_with fail
  rw [← HVU.out]
  refine (isGauge_v _ _ _ _ _ _ [] _ HG.out _ HSV.out hm hn).mono ?_
  rintro e w1 ⟨rfl, hb⟩
  have HB1 := Lib.hid (bthen HBV.out hb HBV.out.size)
  have HG1 := Lib.hid (HGV.out.next hb)
  have HR1 := Lib.hid (HRV.out.next hb)
  have HZ1 := Lib.hid (HZV.out.next hb)
  have HS1 := Lib.hid (spots_more HSV.out hb)
  clear hb
  have g3 := HG1.out.at_ 3 _ rfl
  have r0 := HR1.out.at_ 0 _ rfl
  have HA := Lib.hid (asc_of_good HGG.out.2.2.2.2)
  go_wp2_with fail
  refine (placeOf_any _ _ _ [] _ _ HS1.out (by omega) HA.out).mono ?_
  rintro e w2 ⟨i, hi, rfl, hb⟩
  have HLB := Lib.hid hi
  obtain rfl : i = 0 := by have := hi.1; simpa using this
  have HB2 := Lib.hid (bthen HB1.out hb HB1.out.size)
  have HG2 := Lib.hid (HG1.out.next hb)
  have HR2 := Lib.hid (HR1.out.next hb)
  have HZ2 := Lib.hid (HZ1.out.next hb)
  have HS2 := Lib.hid (spots_more HS1.out hb)
  clear hb hi g3 r0
  have g3 := HG2.out.at_ 3 _ rfl
  have r0 := HR2.out.at_ 0 _ rfl
  have r1 := HR2.out.at_ 1 _ rfl
  rcases hh : hitB [] t 0 with _ | _
  · have HADL : Hid (adR [] t y = [(t, y)]) := by unfold Hid adR adL adE; simp
    clear hh
    go_wp2_with fail
    have lc0 := lcell g3
    have lc1 := lcell r0
    have lc2 := lcell r1
    refine region_perm (W := w2) 12 [0, 1, 2, 3, 4, 6, 7, 8, 9] [5, 10, 11] (by kernel_rfl) (by kernel_rfl) (Below.refl _ _) (fun d _ _ _ _ h => by cases d <;> exact h) ?_
    simp only [picks, List.getElem?_cons_succ, List.getElem?_cons_zero, List.drop_succ_cons, List.drop_zero]
    repeat (go_big_quiet_step (fail))
    refine wpQuiet_nil ?_
    intro W3 hW1
    have HL : Hid (Below w2.heap.size w2 W3) := by obtain ⟨x, rfl⟩ := hW1; exact Lib.hid x.below
    clear hW1 lc0 lc1 lc2 g3 r0 r1
    have HC := Lib.hid (cat_nil t y W3)
    have HB3 : Hid (Below w2.heap.size w2 ((W3.alloc (.cells #[.int .i64 t, .int .i64 y] 28)).alloc (.cells #[.slice none 0 0, .slice (some ⟨W3.heap.size, 0, none⟩) 1 1, .slice none 0 0] 24))) := Lib.hid ((HL.out.alloc HL.out.size _).alloc (by rw [World.size_alloc]; exact Nat.le_succ_of_le HL.out.size) _)
    simp only [wpMem]
    refine wpOp_step rfl (fun K hK => ?_)
    rw [if_pos (by rfl)]
    go_simp
    refine hK _ _ ⟨⟨⟨_, HL.out.alloc HL.out.size _⟩, rfl⟩, ?_⟩
    clear hK K
    refine wpOp_step rfl (fun K hK => ?_)
    rw [if_pos (by rfl)]
    go_simp
    refine hK _ _ ⟨⟨⟨_, HB3.out⟩, rfl⟩, ?_⟩
    clear hK K
    refine wpOp_step rfl (fun K hK => ?_)
    rw [if_pos (by rfl)]
    go_simp
    refine HC.out.mono ?_
    rintro e w5 ⟨v, rfl, hown, hb⟩
    refine hK _ _ ⟨⟨⟨_, bthen HB3.out hb HB3.out.size⟩, rfl⟩, ?_⟩
    clear hK K
    rw [← HADL.out] at hown
    obtain ⟨A5, c5, rfl⟩ := own_slice hown
    have HO5 := Lib.hid ((own2_of_row hown rfl).wide (lo' := w2.heap.size) HB3.out.size (Nat.le_refl _))
    have HCP := Lib.hid (own_cap hown)
    have HB5 := Lib.hid (bthen HB3.out hb HB3.out.size)
    clear hown hb HC
    have HG5 := Lib.hid (HG2.out.next HB5.out)
    have HZ5 := Lib.hid (HZ2.out.next HB5.out)
    have HBW := Lib.hid (bthen HB2.out HB5.out HB2.out.size)
    have hzz := HZ2.out.1
    obtain ⟨Y, hY⟩ : ∃ Y, Y = w5.setCell ⟨w.heap.size, 3, none⟩ (.slice A5 (adR [] t y).length c5) := ⟨_, rfl⟩
    have HY : Hid (Has Y w.heap.size [.int .i64 id, .string nm, .int .i64 ze, .slice A5 (adR [] t y).length c5] ∧ Has Y (w.heap.size + 2) [.int .i64 0, .string ⟨#[]⟩, .int .i64 0, .slice none 0 0] ∧ Own2 Y w2.heap.size Y.heap.size A5 (adR [] t y).length (adR [] t y) ∧ Below w.heap.size w Y) := by
      have e1 := HG5.out.set 3 (.slice A5 (adR [] t y).length c5)
      have e2 := HZ5.out.far (p := ⟨w.heap.size, 3, none⟩) (by simp) (.slice A5 (adR [] t y).length c5)
      have e3 := HO5.out.put ⟨w.heap.size, 3, none⟩ (.slice A5 (adR [] t y).length c5) (.inl (by simp only; omega))
      have e4 := HBW.out.setCell (p := ⟨w.heap.size, 3, none⟩) (Nat.le_refl _) (.slice A5 (adR [] t y).length c5)
      rw [hY]
      exact ⟨e1, e2, e3.wide (Nat.le_refl _) (by simp [World.setCell]), e4⟩
    have HLN : Hid ((adR [] t y).length ≤ maxLen) := by
      unfold Hid maxLen
      rw [HADL.out]
      simp
    have p0 := HG5.out.at_ 0 _ rfl
    have p1 := HG5.out.at_ 1 _ rfl
    have p2 := HG5.out.at_ 2 _ rfl
    have p3 := HG5.out.at_ 3 _ rfl
    have pf0 := HG5.out.free 0
    have pf1 := HG5.out.free 1
    have pf2 := HG5.out.free 2
    have pf3 := HG5.out.free 3
    go_wp2_with fail
    rw [← hY]
    clear p0 p1 p2 p3 pf0 pf1 pf2 pf3
    have HYE := Lib.hid hY
    clear hY
    have HSY := Lib.hid (HY.out.2.2.1.spots (Nat.le_refl _))
    rcases hk2 : gaugeB id nm ze (adR [] t y) with _ | _
    · have HG2' := Lib.hid hk2
      have HR2' : Hid (adK id ze nm [] t y = false) := by unfold Hid adK; rw [hk2, Bool.and_false]
      clear hk2
      have p0 := HY.out.1.at_ 0 _ rfl
      have p1 := HY.out.1.at_ 1 _ rfl
      have p2 := HY.out.1.at_ 2 _ rfl
      have p3 := HY.out.1.at_ 3 _ rfl
      go_wp2_with fail
      refine (isGauge_v _ _ _ _ _ _ (adR [] t y) _ HG2'.out _ HSY.out HLN.out hn).mono ?_
      rintro e w6 ⟨rfl, hb⟩
      have HN := Lib.hid (And.intro (bthen HY.out.2.2.2 hb HY.out.2.2.2.size) (HY.out.2.1.next hb))
      clear hb p0 p1 p2 p3
      have z0 := HN.out.2.at_ 0 _ rfl
      have z1 := HN.out.2.at_ 1 _ rfl
      have z2 := HN.out.2.at_ 2 _ rfl
      have z3 := HN.out.2.at_ 3 _ rfl
      have zf0 := HN.out.2.free 0
      have zf1 := HN.out.2.free 1
      have zf2 := HN.out.2.free 2
      have zf3 := HN.out.2.free 3
      go_wp2_with fail
      refine bodyPost_ret (v := .tuple #[.agg #[.int .i64 0, .string ⟨#[]⟩, .int .i64 0, .slice none 0 0], .bool false]) (by simp [results, Try.results7, go_sem, z0, z1, z2, z3]) rfl (ad_no HR2'.out ?_)
      repeat (first | exact HN.out.1 | refine Below.setCell ?_ (by simp; try omega) _)
    · have HG2' := Lib.hid hk2
      have HR2' : Hid (adK id ze nm [] t y = true) := by unfold Hid adK; rw [HG.out, hk2]; rfl
      clear hk2
      have p0 := HY.out.1.at_ 0 _ rfl
      have p1 := HY.out.1.at_ 1 _ rfl
      have p2 := HY.out.1.at_ 2 _ rfl
      have p3 := HY.out.1.at_ 3 _ rfl
      go_wp2_with fail
      refine (isGauge_v _ _ _ _ _ _ (adR [] t y) _ HG2'.out _ HSY.out HLN.out hn).mono ?_
      rintro e w6 ⟨rfl, hb⟩
      have HN := Lib.hid (And.intro (bthen HY.out.2.2.2 hb HY.out.2.2.2.size) (And.intro (HY.out.2.1.next hb) (And.intro (HY.out.1.next hb) (And.intro (HY.out.2.2.1.on hb (Nat.le_refl _)) hb.size))))
      clear hb p0 p1 p2 p3
      have z0 := HN.out.2.1.at_ 0 _ rfl
      have z1 := HN.out.2.1.at_ 1 _ rfl
      have z2 := HN.out.2.1.at_ 2 _ rfl
      have z3 := HN.out.2.1.at_ 3 _ rfl
      have zf0 := HN.out.2.1.free 0
      have zf1 := HN.out.2.1.free 1
      have zf2 := HN.out.2.1.free 2
      have zf3 := HN.out.2.1.free 3
      have p0 := HN.out.2.2.1.at_ 0 _ rfl
      have p1 := HN.out.2.2.1.at_ 1 _ rfl
      have p2 := HN.out.2.2.1.at_ 2 _ rfl
      have p3 := HN.out.2.2.1.at_ 3 _ rfl
      go_wp2_with fail
      refine bodyPost_ret (v := .tuple #[.agg #[.int .i64 id, .string nm, .int .i64 ze, .slice A5 (adR [] t y).length c5], .bool true]) (by simp [results, Try.results7, go_sem, z0, z1, z2, z3]) rfl (ad_yes HR2'.out ?_ HCP.out ?_)
      · refine ((((HN.out.2.2.2.1.put _ _ ?_).put _ _ ?_).put _ _ ?_).put _ _ ?_).wide ?_ ?_
        all_goals (try simp [World.setCell])
        all_goals (have := HN.out.2.2.2.2; try omega)
      · repeat (first | exact HN.out.1 | refine Below.setCell ?_ (by simp; try omega) _)
  · simp [hitB] at hh
end Go.Proofs.Ytlggcfeclbcfaaa
