/-
  A text that is drawn and spoilt, a sounding that is drawn: contracts of spec.l1Cur.spoilt, DrawIsSounding, DrawSoundingText, DrawParseSounding over this translation. Conditions: stated at each theorem.
-/
import Derived.Test.YtklbefdpfhidkaaDoorRm
import Derived.Test.YtklbefdpfhidkaaDoorSt
namespace Go.Proofs.YtklbefdpfhidkaaDoor
open Go.RowKit Go.Sort
set_option linter.unusedVariables false

/-! ### spoilt -/
theorem grown_drewN (w : World) (d : Nat) (r : Option Nat) : w.grownBy (w.drewN d) r := ⟨rfl, rfl, rfl, Nat.le_refl _, fun _ _ _ => rfl⟩
def SpoiltPost (B : Nat) (A : Option Addr) (n c g k : Nat) (m : Nat) (w : World) (e : Ending) (w' : World) : Prop :=
  ∃ (u : ByteArray) (k' : Nat), u.size ≤ m ∧ k ≤ k' ∧ k' ≤ k + 3 ∧ e = .returned (.string u) ∧ Cur B A n c g k' w' ∧ w.grownBy w' (some g)
theorem size_extract_le (s : ByteArray) (a b : Nat) : (s.extract a b).size ≤ s.size := by rw [ByteArray.size_extract]; omega
set_option maxRecDepth 20000 in
set_option maxHeartbeats 3200000 in
theorem spoilt_any (B : Nat) (A : Option Addr) (n c g k : Nat) (t : ByteArray) (w : World) (h : Cur B A n c g k w) (hk : k < 900000) (h0 : 0 < t.size) (ht : t.size ≤ 200) :
    Calls Tryd.prog 37 #[.pointer (some ⟨g, 0, none⟩), .string t, .string ⟨#[48, 64, 44, 58, 43, 45]⟩] w (SpoiltPost B A n c g k (t.size + 1) w) := by
  have HC0 := Lib.hid h
  clear h
  have hne : (t.toList == ([] : List UInt8)) = false := by
    refine beq_eq_false_iff_ne.2 fun e => ?_
    rw [ByteArray.toList_eq] at e
    have h3 : t.data.toList.length = t.size := Array.length_toList
    rw [e] at h3
    simp at h3
    omega
  go_enter Tryd.func37, Tryd.ntmps37
  go_wp2_with fail
  refine (pick_ge1 _ _ _ _ _ _ t.size _ HC0.out (by omega) h0 ht).mono ?_
  rintro e w1 ⟨i, k1, hi, hk1, hk2, rfl, hc, hg⟩
  have HC1 := Lib.hid hc
  have HG1 := Lib.hid hg
  clear hc hg HC0
  go_wp2_with fail
  refine (pick_any _ _ _ _ _ _ 6 _ HC1.out (by omega) (by decide) (by decide)).mono ?_
  rintro e w2 ⟨j, hj, rfl, hc, hg⟩
  have HC2 := Lib.hid hc
  have HG2 := Lib.hid (grown_trans HG1.out hg)
  clear hc hg HC1 HG1
  go_wp2_with fail
  obtain ⟨wd, hwd⟩ : ∃ x, x = ((⟨#[48, 64, 44, 58, 43, 45]⟩ : ByteArray).extract j 6).extract 0 1 := ⟨_, rfl⟩
  have hw1 : wd.size ≤ 1 := by rw [hwd, ByteArray.size_extract]; omega
  rw [← hwd]
  clear hwd
  have lp : (t.extract 0 i).size = i := by rw [ByteArray.size_extract]; omega
  have lq : (t.extract i t.size).size = t.size - i := by rw [ByteArray.size_extract]; omega
  have lr : (t.extract (i + 1) t.size).size = t.size - (i + 1) := by rw [ByteArray.size_extract]; omega
  obtain ⟨_, a1, rfl, z1⟩ := cat_any (t.extract 0 i) wd (by omega)
  obtain ⟨_, a2, rfl, z2⟩ := cat_any (t.extract 0 i ++ wd) (t.extract i t.size) (by omega)
  obtain ⟨_, a3, rfl, z3⟩ := cat_any (t.extract 0 i ++ wd) (t.extract (i + 1) t.size) (by omega)
  obtain ⟨_, a4, rfl, z4⟩ := cat_any (t.extract 0 i) (t.extract (i + 1) t.size) (by omega)
  have e1 : IntKind.i64.wrap ((i : Int) + 1) = (i : Int) + 1 := IntWalk.i64_in _ (by omega)
  have e2 : ((i : Int) + 1).toNat = i + 1 := by omega
  have g2 : ((t.extract 0 i ++ wd) ++ t.extract i t.size).size ≤ t.size + 1 := by omega
  have g3 : ((t.extract 0 i ++ wd) ++ t.extract (i + 1) t.size).size ≤ t.size + 1 := by omega
  have g4 : (t.extract 0 i ++ t.extract (i + 1) t.size).size ≤ t.size + 1 := by omega
  clear lp lq lr z1 z2 z3 z4 hw1
  have x1 : ∀ W, (Instr.slice 9 (.string t) none (some (.int .i64 (i : Int))) none).run Tryd.prog W = .ok (.string (t.extract 0 i)) W := fun W => run_slice_string_h W 9 t Tryd.underlying9 .i64 (i : Int) (by omega) (by omega)
  have x2 : ∀ W, (Instr.slice 9 (.string t) (some (.int .i64 (i : Int))) none none).run Tryd.prog W = .ok (.string (t.extract i t.size)) W := fun W => run_slice_string_l W 9 t Tryd.underlying9 .i64 (i : Int) (by omega) (by omega)
  have x3 : ∀ W, (Instr.slice 9 (.string t) (some (.int .i64 ((i : Int) + 1))) none none).run Tryd.prog W = .ok (.string (t.extract (i + 1) t.size)) W := fun W => by
    have h := run_slice_string_l W 9 t Tryd.underlying9 .i64 ((i : Int) + 1) (by omega) (by omega)
    rwa [e2] at h
  refine (pick_any _ _ _ _ _ _ 3 _ HC2.out (by omega) (by decide) (by decide)).mono ?_
  rintro e w3 ⟨q, hq, rfl, hc, hg⟩
  have HC3 := Lib.hid hc
  have HG3 := Lib.hid (grown_trans HG2.out hg)
  clear hc hg HC2 HG2
  have fin : ∀ (u : ByteArray) (d : Nat), u.size ≤ t.size + 1 → SpoiltPost B A n c g k (t.size + 1) w (.returned (.string u)) (w3.drewN d) := fun u d hu =>
    ⟨u, _, hu, by omega, by omega, rfl, HC3.out.kept (grown_drewN w3 d none) (by simp) (fun _ e => by cases e), grown_trans HG3.out (grown_drewN w3 d _)⟩
  have FIN := Lib.hid fin
  clear fin
  by_cases hq0 : q = 0
  · subst hq0
    go_wp2_with fail
    go_quiet (fail)
    go_wp2_with fail
    go_ret
    exact FIN.out _ _ g2
  have d0 : ((q : Int) == 0) = false := beq_eq_false_iff_ne.2 (by omega)
  by_cases hq1 : q = 1
  · subst hq1
    go_wp2_with fail
    go_quiet (fail)
    go_wp2_with fail
    go_ret
    exact FIN.out _ _ g3
  have d1 : ((q : Int) == 1) = false := beq_eq_false_iff_ne.2 (by omega)
  clear hq0 hq1
  go_wp2_with fail
  go_quiet (fail)
  go_wp2_with fail
  go_ret
  exact FIN.out _ _ g4

/-! ### One sounding -/
def DrawS1 (w : World) (e : Ending) (w' : World) : Prop := ∃ v : SD, e = .returned (.agg #[.int .i64 v.id, .int .i64 v.x, .int .i64 v.y, .int .i64 v.dep, .int .i64 v.dbt]) ∧ Below w.heap.size w w'
set_option maxRecDepth 20000 in
set_option maxHeartbeats 3200000 in
theorem draw_is (A : Option Addr) (n c : Nat) (w : World) (h : CodeRow w.heap.size A n w) : Calls Tryd.prog 24 #[.slice A n c] w (DrawS1 w) := by
  have hb0 : Below w.heap.size w (w.alloc (.cells #[.int .i64 0, .int .i64 0, .int .i64 0, .int .i64 0, .int .i64 0] 27)) := (Below.refl _ _).alloc (Nat.le_refl _) _
  have HC0 := Lib.hid (cur_new (w.alloc (.cells #[.int .i64 0, .int .i64 0, .int .i64 0, .int .i64 0, .int .i64 0] 27)) A n c 65 (h.below hb0 (by simp)))
  have HZ0 : Hid (Has ((w.alloc (.cells #[.int .i64 0, .int .i64 0, .int .i64 0, .int .i64 0, .int .i64 0] 27)).alloc (.cells #[.slice A n c, .int .i64 0, .int .u64 0] 65)) w.heap.size [.int .i64 0, .int .i64 0, .int .i64 0, .int .i64 0, .int .i64 0]) := Lib.hid ((show Has (w.alloc (.cells #[.int .i64 0, .int .i64 0, .int .i64 0, .int .i64 0, .int .i64 0] 27)) w.heap.size [.int .i64 0, .int .i64 0, .int .i64 0, .int .i64 0, .int .i64 0] by simpa using Has.new w #[.int .i64 0, .int .i64 0, .int .i64 0, .int .i64 0, .int .i64 0] 27).alloc _)
  have hzz : (w.alloc (.cells #[.int .i64 0, .int .i64 0, .int .i64 0, .int .i64 0, .int .i64 0] 27)).heap.size = w.heap.size + 1 := by simp
  rw [hzz] at HC0
  clear h hb0 hzz
  have HNE : Hid (some w.heap.size ≠ some (w.heap.size + 1)) := Lib.hid fun e => by have := Option.some.inj e; omega
  go_enter Tryd.func24, Tryd.ntmps24
  go_wp2_with fail
  refine (among_at AnyI _ _ _ _ _ _ _ 5 [1, 7, 999, 0, 1000] _ HC0.out (by simp) (by omega) (by decide) (by decide) (fun _ _ => trivial)).mono ?_
  rintro e w1 ⟨x, _, rfl, hc, hg⟩
  have HC1 := Lib.hid hc
  have HG1 := Lib.hid hg
  have HZ1 := Lib.hid (has_grown HZ0.out hg HNE.out)
  clear hc hg HC0 HZ0
  go_wp2_with fail
  refine (sound_any _ _ _ _ _ _ x _ HC1.out (by omega)).mono ?_
  rintro e w2 ⟨v, k2, hvi, hk3, hk4, rfl, hc, hg⟩
  have HG2 := Lib.hid (below_reader1 (grown_trans HG1.out hg))
  have HZ2 := Lib.hid (has_grown HZ1.out hg HNE.out)
  clear hc hg HC1 HG1 HZ1 hvi
  have z0 := HZ2.out.at_ 0 _ rfl
  have f0 := HZ2.out.free 0
  have z1 := HZ2.out.at_ 1 _ rfl
  have f1 := HZ2.out.free 1
  have z2 := HZ2.out.at_ 2 _ rfl
  have f2 := HZ2.out.free 2
  have z3 := HZ2.out.at_ 3 _ rfl
  have f3 := HZ2.out.free 3
  have z4 := HZ2.out.at_ 4 _ rfl
  have f4 := HZ2.out.free 4
  have HR := Lib.hid (lay5 HZ2.out rfl v)
  have r0 := HR.out.at_ 0 _ rfl
  have r1 := HR.out.at_ 1 _ rfl
  have r2 := HR.out.at_ 2 _ rfl
  have r3 := HR.out.at_ 3 _ rfl
  have r4 := HR.out.at_ 4 _ rfl
  simp only [setL] at r0 r1 r2 r3 r4
  go_wp2_with fail
  refine bodyPost_ret (v := .agg #[.int .i64 v.id, .int .i64 v.x, .int .i64 v.y, .int .i64 v.dep, .int .i64 v.dbt]) (by simp [results, Tryd.results24, go_sem, r0, r1, r2, r3, r4]) rfl ⟨v, rfl, ?_⟩
  repeat (first | with_reducible exact HG2.out | refine Below.setCell ?_ (by simp; try omega) _)
theorem draw_text (A : Option Addr) (n c : Nat) (w : World) (h : CodeRow w.heap.size A n w) : Calls Tryd.prog 7 #[.slice A n c] w (DrawS1 w) := by
  have hb0 : Below w.heap.size w (w.alloc (.cells #[.int .i64 0, .int .i64 0, .int .i64 0, .int .i64 0, .int .i64 0] 27)) := (Below.refl _ _).alloc (Nat.le_refl _) _
  have H := Lib.hid (draw_is A n c (w.alloc (.cells #[.int .i64 0, .int .i64 0, .int .i64 0, .int .i64 0, .int .i64 0] 27)) (h.below hb0 (by simp)))
  have HZ0 : Hid (Has (w.alloc (.cells #[.int .i64 0, .int .i64 0, .int .i64 0, .int .i64 0, .int .i64 0] 27)) w.heap.size [.int .i64 0, .int .i64 0, .int .i64 0, .int .i64 0, .int .i64 0]) := Lib.hid (by simpa using Has.new w #[.int .i64 0, .int .i64 0, .int .i64 0, .int .i64 0, .int .i64 0] 27)
  have HB0 := Lib.hid hb0
  clear h hb0
  go_enter Tryd.func7, Tryd.ntmps7
  go_wp2_with fail
  refine H.out.mono ?_
  rintro e w2 ⟨v, rfl, hb⟩
  have HG2 := Lib.hid (bthen HB0.out hb HB0.out.size)
  have HZ2 := Lib.hid (HZ0.out.next hb)
  clear hb
  have z0 := HZ2.out.at_ 0 _ rfl
  have f0 := HZ2.out.free 0
  have z1 := HZ2.out.at_ 1 _ rfl
  have f1 := HZ2.out.free 1
  have z2 := HZ2.out.at_ 2 _ rfl
  have f2 := HZ2.out.free 2
  have z3 := HZ2.out.at_ 3 _ rfl
  have f3 := HZ2.out.free 3
  have z4 := HZ2.out.at_ 4 _ rfl
  have f4 := HZ2.out.free 4
  have HR := Lib.hid (lay5 HZ2.out rfl v)
  have r0 := HR.out.at_ 0 _ rfl
  have r1 := HR.out.at_ 1 _ rfl
  have r2 := HR.out.at_ 2 _ rfl
  have r3 := HR.out.at_ 3 _ rfl
  have r4 := HR.out.at_ 4 _ rfl
  simp only [setL] at r0 r1 r2 r3 r4
  go_wp2_with fail
  refine bodyPost_ret (v := .agg #[.int .i64 v.id, .int .i64 v.x, .int .i64 v.y, .int .i64 v.dep, .int .i64 v.dbt]) (by simp [results, Tryd.results7, go_sem, r0, r1, r2, r3, r4]) rfl ⟨v, rfl, ?_⟩
  repeat (first | with_reducible exact HG2.out | refine Below.setCell ?_ (by simp; try omega) _)
/-! ### A text -/
def DrawT (w : World) (e : Ending) (w' : World) : Prop := ∃ t : ByteArray, t.size ≤ 200 ∧ e = .returned (.string t) ∧ Below w.heap.size w w'
theorem txtS_pos (v : SD) : 0 < (txtS v).size := by
  have z1 : (⟨#[64]⟩ : ByteArray).size = 1 := rfl
  unfold txtS
  simp only [ByteArray.size_append]
  omega
set_option maxRecDepth 20000 in
set_option maxHeartbeats 3200000 in
theorem draw_parse (A : Option Addr) (n c : Nat) (w : World) (h : CodeRow w.heap.size A n w) : Calls Tryd.prog 12 #[.slice A n c] w (DrawT w) := by
  have HC0 := Lib.hid (cur_new w A n c 65 h)
  clear h
  go_enter Tryd.func12, Tryd.ntmps12
  go_wp2_with fail
  refine (among_at AnyI _ _ _ _ _ _ _ 3 [1, 42, 999] _ HC0.out (by simp) (by omega) (by decide) (by decide) (fun _ _ => trivial)).mono ?_
  rintro e w1 ⟨x, _, rfl, hc, hg⟩
  have HC1 := Lib.hid hc
  have HG1 := Lib.hid hg
  clear hc hg HC0
  go_wp2_with fail
  refine (sound_any _ _ _ _ _ _ x _ HC1.out (by omega)).mono ?_
  rintro e w2 ⟨v, k2, hvi, hk3, hk4, rfl, hc, hg⟩
  have HC2 := Lib.hid (hc.alloc (.cells #[.int .i64 v.id, .int .i64 v.x, .int .i64 v.y, .int .i64 v.dep, .int .i64 v.dbt] 27))
  have HG2 := Lib.hid (grown_trans (grown_trans HG1.out hg) (World.grownBy_alloc _ (.cells #[.int .i64 v.id, .int .i64 v.x, .int .i64 v.y, .int .i64 v.dep, .int .i64 v.dbt] 27) _))
  clear hc hg HC1 HG1 hvi
  obtain ⟨r, hr⟩ : ∃ r, sdB v = r := ⟨_, rfl⟩
  have HR := Lib.hid hr
  clear hr
  go_wp2_with fail
  refine (one_spec v r HR.out _).mono ?_
  rintro e w3 ⟨rfl, hb⟩
  have HX3 := Lib.hid (box1 hb)
  have HC3 := Lib.hid (HC2.out.kept (grown_of_below hb none) (by simp) (fun _ e => by cases e))
  have HG3 := Lib.hid (grown_trans HG2.out (grown_of_below hb _))
  clear hb HC2 HG2
  rcases r with _ | _
  · skip
    go_wp2_with fail
    refine (one_any _ _ _ _ _ _ 4 _ HC3.out (by omega) (by decide) (by decide)).mono ?_
    rintro e w4 ⟨b, rfl, hc, hg⟩
    have HC5 := Lib.hid hc
    have HG5 := Lib.hid (grown_trans HG3.out hg)
    clear hc hg HC3 HG3
    rcases b with _ | _
    · have HB := Lib.hid (below_reader HG5.out)
      go_wp2_with fail
      go_ret
      exact ⟨_, (by decide), rfl, HB.out⟩
    go_wp2_with fail
    refine (spoilt_any _ _ _ _ _ _ ⟨#[55, 64, 49, 48, 44, 50, 48, 58, 45, 51, 48, 43, 45, 53]⟩ _ HC5.out (by omega) (by decide) (by first | omega | decide)).mono ?_
    rintro e w5 ⟨u, k5, hu, _, _, rfl, hc, hg⟩
    have HB := Lib.hid (below_reader (grown_trans HG5.out hg))
    have hu2 : u.size ≤ 200 := Nat.le_trans hu (by first | omega | decide)
    clear hc hg hu
    go_wp2_with fail
    go_ret
    exact ⟨u, hu2, rfl, HB.out⟩
  have a0 := HX3.out.2.at_ 0 _ rfl
  have a1 := HX3.out.2.at_ 1 _ rfl
  have a2 := HX3.out.2.at_ 2 _ rfl
  have a3 := HX3.out.2.at_ 3 _ rfl
  have a4 := HX3.out.2.at_ 4 _ rfl
  go_wp2_with fail
  refine (l8text_spec v _ HR.out).mono ?_
  rintro e w3b ⟨rfl, hb⟩
  have HC4 := Lib.hid (HC3.out.kept (grown_of_below hb none) (by simp) (fun _ e => by cases e))
  have HG4 := Lib.hid (grown_trans HG3.out (grown_of_below hb _))
  clear hb HC3 HG3 a0 a1 a2 a3 a4
  obtain ⟨tx, htx⟩ : ∃ tx, txtS v = tx := ⟨_, rfl⟩
  have ht0 : 0 < tx.size := by rw [← htx]; exact txtS_pos v
  have ht1 : tx.size ≤ 35 := by rw [← htx]; exact txtS_size v HR.out
  rw [htx]
  clear htx
  go_wp2_with fail
  refine (one_any _ _ _ _ _ _ 4 _ HC4.out (by omega) (by decide) (by decide)).mono ?_
  rintro e w4 ⟨b, rfl, hc, hg⟩
  have HC5 := Lib.hid hc
  have HG5 := Lib.hid (grown_trans HG4.out hg)
  clear hc hg HC4 HG4
  rcases b with _ | _
  · have HB := Lib.hid (below_reader HG5.out)
    go_wp2_with fail
    go_ret
    exact ⟨_, (by first | omega | decide), rfl, HB.out⟩
  go_wp2_with fail
  refine (spoilt_any _ _ _ _ _ _ tx _ HC5.out (by omega) ht0 (by first | omega | decide)).mono ?_
  rintro e w5 ⟨u, k5, hu, _, _, rfl, hc, hg⟩
  have HB := Lib.hid (below_reader (grown_trans HG5.out hg))
  have hu2 : u.size ≤ 200 := Nat.le_trans hu (by first | omega | decide)
  clear hc hg hu
  go_wp2_with fail
  go_ret
  exact ⟨u, hu2, rfl, HB.out⟩
/-! ### A row whose depths are drawn anew -/
/-- Block gb holds the soundings M, and may be written. -/
structure DrA (gb : Nat) (M : List SD) (W : World) : Prop where
  lt : gb < W.heap.size
  free : ∀ j, W.frozen? ⟨gb, j, none⟩ = false
  at_ : ∀ k v, M[k]? = some v → At5 W gb (k * 5) v
theorem DrA.sds {gb : Nat} {M : List SD} {W : World} (h : DrA gb M W) : Sds W W.heap.size (some ⟨gb, 0, none⟩) M.length M :=
  ⟨rfl, fun k hk => ⟨gb, 0, M[k], rfl, h.lt, List.getElem?_eq_getElem hk, by rw [Nat.zero_add]; exact h.at_ k _ (List.getElem?_eq_getElem hk)⟩⟩
theorem DrA.grown {gb g : Nat} {M : List SD} {W W' : World} (h : DrA gb M W) (hg : W.grownBy W' (some g)) (hne : gb ≠ g) : DrA gb M W' := by
  have hb := hg.block gb h.lt (fun e => hne (Option.some.inj e))
  have cell : ∀ j, W'.cell? ⟨gb, j, none⟩ = W.cell? ⟨gb, j, none⟩ := fun j => World.cell?_of_block (a := ⟨gb, j, none⟩) hb
  refine ⟨Nat.lt_of_lt_of_le h.lt hg.size, fun j => (World.frozen?_of_block (a := ⟨gb, j, none⟩) hb).trans (h.free j), fun k v hv => ?_⟩
  obtain ⟨h0, h1, h2, h3, h4⟩ := h.at_ k v hv
  exact ⟨(cell _).trans h0, (cell _).trans h1, (cell _).trans h2, (cell _).trans h3, (cell _).trans h4⟩
theorem DrA.set {gb : Nat} {M : List SD} {W : World} (h : DrA gb M W) {k : Nat} {v : SD} (hv : M[k]? = some v) (x : Int) : DrA gb (M.set k ⟨v.id, v.x, v.y, x, v.dbt⟩) (W.setCell ⟨gb, k * 5 + 3, none⟩ (.int .i64 x)) := by
  have hk : k < M.length := (List.getElem?_eq_some_iff.1 hv).1
  have far : ∀ j, j ≠ k * 5 + 3 → (W.setCell ⟨gb, k * 5 + 3, none⟩ (.int .i64 x)).cell? ⟨gb, j, none⟩ = W.cell? ⟨gb, j, none⟩ := fun j hj => World.cell?_setCell_other _ _ _ _ (fun e => hj (by injection e with _ e _; exact e.symm))
  refine ⟨by simpa using h.lt, fun j => by simpa using h.free j, fun j u hu => ?_⟩
  by_cases hjk : j = k
  · subst hjk
    rw [List.getElem?_set_self hk] at hu
    obtain rfl := Option.some.inj hu
    obtain ⟨h0, h1, h2, h3, h4⟩ := h.at_ j v hv
    exact ⟨(far _ (by omega)).trans h0, (far _ (by omega)).trans h1, (far _ (by omega)).trans h2, World.cell?_setCell_same _ _ _ h3, (far _ (by omega)).trans h4⟩
  · rw [List.getElem?_set_ne (fun e => hjk e.symm)] at hu
    obtain ⟨h0, h1, h2, h3, h4⟩ := h.at_ j u hu
    exact ⟨(far _ (by omega)).trans h0, (far _ (by omega)).trans h1, (far _ (by omega)).trans h2, (far _ (by omega)).trans h3, (far _ (by omega)).trans h4⟩
theorem ids_set {M : List SD} (h : Ids M) {k : Nat} {v : SD} (hv : M[k]? = some v) (x : Int) : Ids (M.set k ⟨v.id, v.x, v.y, x, v.dbt⟩) := fun u hu => by
  rcases List.mem_or_eq_of_mem_set hu with h1 | h1
  · exact h u h1
  · rw [h1]; exact h v (List.mem_of_getElem? hv)
theorem dra_of {base : Nat} {L : List SD} {gb cap : Nat} {W : World} (h : RS base L (.slice (some ⟨gb, 0, none⟩) L.length cap) W) : DrA gb L W :=
  ⟨(World.ownsRow.lt h gb rfl).2, fun j => World.ownsRow.frozenAt h j, fun k v hv => by
    obtain ⟨b, o, u, hA, _, hL, h5⟩ := h.sds.2 k (List.getElem?_eq_some_iff.1 hv).1
    obtain ⟨rfl, rfl⟩ : gb = b ∧ 0 = o := by injection hA with hA; injection hA with a b; exact ⟨a, b⟩
    obtain rfl : v = u := Option.some.inj (hv.symm.trans hL)
    rwa [Nat.zero_add] at h5⟩
set_option maxRecDepth 20000 in
set_option maxHeartbeats 3200000 in
theorem draw_all (A : Option Addr) (n c : Nat) (w : World) (h : CodeRow w.heap.size A n w) : Calls Tryd.prog 14 #[.slice A n c] w (DrawS0 w) := by
  have HC0 := Lib.hid (cur_new w A n c 65 h)
  clear h
  go_enter Tryd.func14, Tryd.ntmps14
  go_wp2_with fail
  refine (sounds_any _ _ _ _ _ _ _ HC0.out (by omega)).mono ?_
  rintro e w1 ⟨L, gb, cap, k1, hl, hN, hk1, hk2, hgb, hcap, rfl, hR, hC, hg⟩
  have HR1 := Lib.hid (dra_of hR)
  have HC1 := Lib.hid hC
  have HG1 := Lib.hid hg
  have HN := Lib.hid hN
  have hgg : w.heap.size < gb := by rw [World.size_alloc] at hgb; omega
  clear hR hC hg hN HC0
  go_wp2_with fail
  refine (one_any _ _ _ _ _ _ 2 _ HC1.out (by omega) (by decide) (by decide)).mono ?_
  rintro e w2 ⟨b, rfl, hc, hg⟩
  have HC2 := Lib.hid hc
  have HG2 := Lib.hid (grown_trans HG1.out hg)
  have HR2 := Lib.hid (HR1.out.grown hg (by omega))
  clear hc hg HC1 HG1 HR1
  rcases b with _ | _
  · have HD : Hid (DrawnS w L gb cap w2) := Lib.hid ⟨hl, HN.out, hcap, HR2.out.sds, below_reader HG2.out⟩
    go_wp2_with fail
    go_ret
    exact ⟨L, gb, cap, rfl, HD.out⟩
  go_wp2_with fail
  go_loopw [5] (fun i wr => ∃ (k k' : Nat) (M : List SD), k ≤ L.length ∧ M.length = L.length ∧ k' ≤ 200 + k ∧ i = .int .i64 k ∧ Hid (Ids M) ∧ Hid (DrA gb M wr) ∧ Hid (Cur w.heap.size A n c w.heap.size k' wr) ∧ Hid ((w.alloc (.cells #[.slice A n c, .int .i64 0, .int .u64 0] 65)).grownBy wr (some w.heap.size))) (fun i _ => L.length - (intOf i).toNat)
  case atStart => exact ⟨0, _, L, Nat.zero_le _, rfl, by omega, rfl, HN, HR2, HC2, HG2⟩
  case round =>
    obtain ⟨k, k', M, hk, hM, hk', rfl, hI, hD, hC, hG⟩ := hrel
    by_cases hlt : k < L.length
    · go_wp2_with fail
      refine (pick_any _ _ _ _ _ _ 30 _ hC.out (by omega) (by decide) (by decide)).mono ?_
      rintro e w3 ⟨q, hq, rfl, hc, hg⟩
      have HC3 := Lib.hid hc
      have HG3 := Lib.hid (grown_trans hG.out hg)
      have HD3 := Lib.hid (hD.out.grown hg (by omega))
      clear hc hg hC hG hD
      obtain ⟨v, hv⟩ : ∃ v, M[k]? = some v := ⟨M[k], List.getElem?_eq_getElem (by omega)⟩
      have HI4 := Lib.hid (ids_set hI.out hv (800 + (q : Int)))
      have HD4 := Lib.hid (HD3.out.set hv (800 + (q : Int)))
      have HC4 := Lib.hid (HC3.out.set (gb := gb) (by omega) (by omega) (k * 5 + 3) (.int .i64 (800 + (q : Int))))
      have HG4 := Lib.hid (grown_put HG3.out hgb (k * 5 + 3) (.int .i64 (800 + (q : Int))))
      obtain ⟨_, _, _, c3, _⟩ := HD3.out.at_ k v hv
      have f3 := HD3.out.free (k * 5 + 3)
      have hMl : (M.set k ⟨v.id, v.x, v.y, 800 + (q : Int), v.dbt⟩).length = L.length := by rw [List.length_set]; exact hM
      clear hv
      go_wp2_with fail
      go_roundw
      case rel => exact ⟨k + 1, _, _, by omega, hMl, by omega, by go_num, HI4, HD4, HC4, HG4⟩
      case measure => simp [intOf]; omega
    · obtain rfl : k = L.length := by omega
      have HD5 : Hid (DrawnS w M gb cap wr) := Lib.hid ⟨by omega, hI.out, by omega, hD.out.sds, below_reader hG.out⟩
      go_wp2_with fail
      go_ret
      exact ⟨M, gb, cap, by rw [hM]; rfl, HD5.out⟩
/-! ### The id of a sounding that is drawn -/
def OfPost (B : Nat) (A : Option Addr) (n c g k : Nat) (w : World) (e : Ending) (w' : World) : Prop :=
  ∃ (x : Int) (k' : Nat), 0 ≤ x ∧ x ≤ 1000 ∧ k ≤ k' ∧ k' ≤ k + 2 ∧ e = .returned (.int .i64 x) ∧ Cur B A n c g k' w' ∧ w.grownBy w' (some g)
set_option maxRecDepth 20000 in
set_option maxHeartbeats 3200000 in
theorem of_any (B : Nat) (A : Option Addr) (n c g k gb cap : Nat) (L : List SD) (w : World) (h : Cur B A n c g k w) (hk : k < 900000) (hD : DrA gb L w) (hne : gb ≠ g) (hI : Ids L) (hl : L.length ≤ 200) :
    Calls Tryd.prog 49 #[.pointer (some ⟨g, 0, none⟩), .slice (some ⟨gb, 0, none⟩) L.length cap] w (OfPost B A n c g k w) := by
  have HC0 := Lib.hid h
  have HD0 := Lib.hid hD
  have HI := Lib.hid hI
  clear h hD hI
  by_cases h0 : L.length = 0
  · have d0 : ((L.length : Int) == 0) = true := by rw [h0]; rfl
    go_enter Tryd.func49, Tryd.ntmps49
    go_wp2_with fail
    refine (among_at (fun x => 0 ≤ x ∧ x ≤ 1000) _ _ _ _ _ _ _ 4 [0, 1, 7, 500] _ HC0.out rfl (by omega) (by decide) (by decide) (by intro x hx; simp only [List.mem_cons, List.not_mem_nil, or_false] at hx; omega)).mono ?_
    rintro e w1 ⟨x, hx, rfl, hc, hg⟩
    have HP : Hid (OfPost B A n c g k w (.returned (.int .i64 x)) w1) := Lib.hid ⟨x, _, hx.1, hx.2, by omega, by omega, rfl, hc, hg⟩
    clear hc hg hx
    go_wp2_with fail
    go_ret
    exact HP.out
  have d0 : ((L.length : Int) == 0) = false := beq_eq_false_iff_ne.2 (by omega)
  go_enter Tryd.func49, Tryd.ntmps49
  go_wp2_with fail
  refine (one_any _ _ _ _ _ _ 12 _ HC0.out (by omega) (by decide) (by decide)).mono ?_
  rintro e w1 ⟨b, rfl, hc, hg⟩
  have HC1 := Lib.hid hc
  have HG1 := Lib.hid hg
  have HD1 := Lib.hid (HD0.out.grown hg hne)
  clear hc hg HC0 HD0
  rcases b with _ | _
  · go_wp2_with fail
    refine (pick_ge1 _ _ _ _ _ _ L.length _ HC1.out (by omega) (by omega) hl).mono ?_
    rintro e w2 ⟨i, k2, hi, hk3, hk4, rfl, hc, hg⟩
    have HD2 := Lib.hid (HD1.out.grown hg hne)
    obtain ⟨v, hv⟩ : ∃ v, L[i]? = some v := ⟨L[i], List.getElem?_eq_getElem hi⟩
    have hvi := HI.out v (List.mem_of_getElem? hv)
    have HP : Hid (OfPost B A n c g k w (.returned (.int .i64 v.id)) w2) := Lib.hid ⟨v.id, _, hvi.1, hvi.2, by omega, by omega, rfl, hc, grown_trans HG1.out hg⟩
    obtain ⟨c0, _, _, _, _⟩ := HD2.out.at_ i v hv
    clear hc hg hv hvi
    go_wp2_with fail
    go_ret
    exact HP.out
  · go_wp2_with fail
    refine (among_at (fun x => 0 ≤ x ∧ x ≤ 1000) _ _ _ _ _ _ _ 4 [0, 1, 7, 500] _ HC1.out rfl (by omega) (by decide) (by decide) (by intro x hx; simp only [List.mem_cons, List.not_mem_nil, or_false] at hx; omega)).mono ?_
    rintro e w2 ⟨x, hx, rfl, hc, hg⟩
    have HP : Hid (OfPost B A n c g k w (.returned (.int .i64 x)) w2) := Lib.hid ⟨x, _, hx.1, hx.2, by omega, by omega, rfl, hc, grown_trans HG1.out hg⟩
    clear hc hg hx
    go_wp2_with fail
    go_ret
    exact HP.out
def DrawS2b (w : World) (e : Ending) (w' : World) : Prop := ∃ (L : List SD) (gb cap : Nat) (x y : Int), (0 ≤ x ∧ x ≤ 1000) ∧ (0 ≤ y ∧ y ≤ 1000) ∧ e = .returned (.tuple #[.slice (some ⟨gb, 0, none⟩) L.length cap, .int .i64 x, .int .i64 y]) ∧ DrawnS w L gb cap w'
set_option maxRecDepth 20000 in
set_option maxHeartbeats 3200000 in
theorem draw_agree (A : Option Addr) (n c : Nat) (w : World) (h : CodeRow w.heap.size A n w) : Calls Tryd.prog 20 #[.slice A n c] w (DrawS2b w) := by
  have HC0 := Lib.hid (cur_new w A n c 65 h)
  clear h
  go_enter Tryd.func20, Tryd.ntmps20
  go_wp2_with fail
  refine (sounds_any _ _ _ _ _ _ _ HC0.out (by omega)).mono ?_
  rintro e w1 ⟨L, gb, cap, k1, hl, hN, hk1, hk2, hgb, hcap, rfl, hR, hC, hg⟩
  have HR1 := Lib.hid (dra_of hR)
  have HC1 := Lib.hid hC
  have HG1 := Lib.hid hg
  have HN := Lib.hid hN
  have hgg : w.heap.size < gb := by rw [World.size_alloc] at hgb; omega
  clear hR hC hg hN HC0
  go_wp2_with fail
  refine (of_any _ _ _ _ _ _ gb cap L _ HC1.out (by omega) HR1.out (by omega) HN.out (by omega)).mono ?_
  rintro e w2 ⟨x, k2, hx1, hx2, hk3, hk4, rfl, hc, hg⟩
  have HC2 := Lib.hid hc
  have HG2 := Lib.hid (grown_trans HG1.out hg)
  have HR2 := Lib.hid (HR1.out.grown hg (by omega))
  clear hc hg HC1 HG1 HR1
  go_wp2_with fail
  refine (of_any _ _ _ _ _ _ gb cap L _ HC2.out (by omega) HR2.out (by omega) HN.out (by omega)).mono ?_
  rintro e w3 ⟨y, k3, hy1, hy2, hk5, hk6, rfl, hc, hg⟩
  have HD : Hid (DrawnS w L gb cap w3) := Lib.hid ⟨hl, HN.out, hcap, (HR2.out.grown hg (by omega)).sds, below_reader (grown_trans HG2.out hg)⟩
  clear hc hg HC2 HG2 HR2
  go_wp2_with fail
  go_ret3
  exact ⟨L, gb, cap, x, y, ⟨hx1, hx2⟩, ⟨hy1, hy2⟩, rfl, HD.out⟩
end Go.Proofs.YtklbefdpfhidkaaDoor
