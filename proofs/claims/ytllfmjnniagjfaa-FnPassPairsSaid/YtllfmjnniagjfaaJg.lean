/-
  Draws with passes: contracts of spec.l1Cur.line11 and the draws of chapter 11 over this translation. Conditions: stated at each theorem.
-/
import Derived.Test.YtllfmjnniagjfaaJf
import Derived.Test.YtllfmjnniagjfaaTc
namespace Go.Proofs.Ytllfmjnniagjfaa
open Go.RowKit Go.Sort
set_option linter.unusedVariables false

/-- A row of passes that is drawn. -/
def DrawnJ (w : World) (L : List PS) (gb cap : Nat) (w' : World) : Prop :=
  L.length ≤ 13 ∧ L.length ≤ cap ∧ cap ≤ maxLen ∧ SdsJ w' w'.heap.size (some ⟨gb, 0, none⟩) L.length L ∧ Below w.heap.size w w'
def DrawJ0 (w : World) (e : Ending) (w' : World) : Prop := ∃ (L : List PS) (gb cap : Nat), e = .returned (.slice (some ⟨gb, 0, none⟩) L.length cap) ∧ DrawnJ w L gb cap w'
def DrawJ1 (w : World) (e : Ending) (w' : World) : Prop := ∃ (L : List PS) (gb cap : Nat) (x : Int), e = .returned (.tuple #[.slice (some ⟨gb, 0, none⟩) L.length cap, .int .i64 x]) ∧ DrawnJ w L gb cap w'
def DrawJ2 (w : World) (e : Ending) (w' : World) : Prop := ∃ (L : List PS) (gb cap : Nat) (x y : Int), e = .returned (.tuple #[.slice (some ⟨gb, 0, none⟩) L.length cap, .int .i64 x, .int .i64 y]) ∧ DrawnJ w L gb cap w'
def DrawJI (w : World) (e : Ending) (w' : World) : Prop := ∃ (L : List PS) (gb cap : Nat) (P : List Int) (gp cp : Nat), P.length ≤ 31 ∧ e = .returned (.tuple #[.slice (some ⟨gb, 0, none⟩) L.length cap, .slice (some ⟨gp, 0, none⟩) P.length cp]) ∧ IFun w' w.heap.size w'.heap.size (some ⟨gp, 0, none⟩) P.length (fun j => P.getD j 0) ∧ DrawnJ w L gb cap w'
def DrawJP (w : World) (e : Ending) (w' : World) : Prop := ∃ (L : List PS) (gb cap : Nat) (p : PS), e = .returned (.tuple #[.slice (some ⟨gb, 0, none⟩) L.length cap, .agg #[.int .i64 p.ln, .int .i64 p.bg, .int .i64 p.en, .int .i64 p.pi, .int .i64 p.bd, .int .i64 p.co]]) ∧ DrawnJ w L gb cap w'
theorem below_readerJ {w W : World} {o : Obj} (hg : (w.alloc o).grownBy W (some w.heap.size)) : Below w.heap.size w W := below_of ((Below.refl w.heap.size w).alloc (Nat.le_refl _) o) hg (by simp) (Nat.le_refl _)
theorem below_readerJ1 {w W : World} {o o' : Obj} (hg : ((w.alloc o).alloc o').grownBy W (some (w.heap.size + 1))) : Below w.heap.size w W := below_of (((Below.refl w.heap.size w).alloc (Nat.le_refl _) o).alloc (by simp) o') hg (by simp <;> omega) (by omega)
theorem RJ.en_ {base : Nat} {L : List PS} {gb cap : Nat} {W : World} (h : RJ base L (.slice (some ⟨gb, 0, none⟩) L.length cap) W) {k : Nat} (hk : k < L.length) : W.cell? ⟨gb, k * 6 + 2, none⟩ = some (.int .i64 (psAt L k).en) := by
  obtain ⟨b, o, v, hA, _, hL, _, _, p2, _⟩ := h.sds.2 k hk
  injection hA with hA
  injection hA with h1 h2
  subst h1 h2
  rw [psAt_at hL]
  simpa using p2
theorem enB_at {L : List PS} (h : EnB L) {k : Nat} (hk : k < L.length) : 0 ≤ (psAt L k).en ∧ (psAt L k).en ≤ 20000 := h _ (List.mem_of_getElem? (psAt_get hk))
set_option maxRecDepth 20000 in
set_option maxHeartbeats 3200000 in
theorem line11_any (B : Nat) (A : Option Addr) (n c g k : Nat) (w : World) (h : Cur B A n c g k w) (hk : k < 900000) :
    Calls Try.prog 82 #[.pointer (some ⟨g, 0, none⟩)] w (IdPost B A n c g k w) := by
  have hgl := h.lt
  have HC0 := Lib.hid (h.alloc (.cells ([1, 2, 2, 3, 999, 0, 1000].map (Value.int .i64)).toArray 3))
  have HH0 := Lib.hid (has_ints w [1, 2, 2, 3, 999, 0, 1000])
  have HG0 : Hid (w.grownBy (w.alloc (.cells ([1, 2, 2, 3, 999, 0, 1000].map (Value.int .i64)).toArray 3)) (some g)) := Lib.hid (World.grownBy_alloc _ _ _)
  clear h
  go_enter Try.func82, Try.ntmps82
  go_wp2_with fail
  refine (pick_any _ _ _ _ _ _ 24 _ HC0.out (by omega) (by decide) (by decide)).mono ?_
  rintro e w1 ⟨q, hq, rfl, hc, hg⟩
  have HC1 := Lib.hid hc
  have HG1 := Lib.hid (grown_trans HG0.out hg)
  have HH1 := Lib.hid (has_grown HH0.out hg (fun e => by have := Option.some.inj e; omega))
  clear hc hg HC0 HG0 HH0
  obtain ⟨r, hr, hr1, hr2⟩ : ∃ r : Nat, (5 : Int) + (q : Int) / 11 = r ∧ 5 ≤ r ∧ r ≤ 7 := ⟨5 + q / 11, by omega, by omega, by omega⟩
  go_wp2_with fail
  refine (among_pre _ _ _ _ _ _ _ _ r [1, 2, 2, 3, 999, 0, 1000] _ HC1.out (by omega) (by omega) (by simp <;> omega) (by decide) HH1.out (by omega)).mono ?_
  rintro e w2 ⟨x, _, rfl, hc, hg⟩
  have HX := Lib.hid (And.intro hc (grown_trans HG1.out hg))
  clear hc hg
  go_wp2_with fail
  go_ret
  exact ⟨x, _, by omega, by omega, rfl, HX.out.1, HX.out.2⟩
set_option maxRecDepth 20000 in
set_option maxHeartbeats 3200000 in
theorem draw_are (A : Option Addr) (n c : Nat) (w : World) (h : CodeRow w.heap.size A n w) : Calls Try.prog 85 #[.slice A n c] w (DrawJ0 w) := by
  have HC0 := Lib.hid (cur_new w A n c 75 h)
  clear h
  go_enter Try.func85, Try.ntmps85
  go_wp2_with fail
  refine (passes_any _ _ _ _ _ _ _ HC0.out (by omega)).mono ?_
  rintro e w1 ⟨L, gb, cap, k1, hl, hEB, hk1, hk2, hgb, rfl, hR, hC, hg⟩
  have HR1 := Lib.hid hR
  have HC1 := Lib.hid hC
  have HG1 := Lib.hid hg
  have hz : w.heap.size < (w.alloc (.cells #[.slice A n c, .int .i64 0, .int .u64 0] 75)).heap.size := by simp
  clear hR hC hg HC0 hEB
  have HD : Hid (DrawnJ w L gb cap w1) := Lib.hid ⟨hl, HR1.out.cap.1, HR1.out.cap.2, HR1.out.sds, below_readerJ HG1.out⟩
  clear HR1 HC1 HG1
  go_wp2_with fail
  go_ret
  exact ⟨L, gb, cap, rfl, HD.out⟩
theorem draw_long (A : Option Addr) (n c : Nat) (w : World) (h : CodeRow w.heap.size A n w) : Calls Try.prog 35 #[.slice A n c] w (DrawJ0 w) := by
  have H := Lib.hid (draw_are A n c w h)
  clear h
  go_enter Try.func35, Try.ntmps35
  go_wp2_with fail
  refine H.out.mono ?_
  rintro e w1 ⟨L, gb, cap, rfl, hd⟩
  have HD := Lib.hid hd
  clear hd
  go_wp2_with fail
  go_ret
  exact ⟨L, gb, cap, rfl, HD.out⟩
set_option maxRecDepth 20000 in
set_option maxHeartbeats 3200000 in
theorem draw_min (A : Option Addr) (n c : Nat) (w : World) (h : CodeRow w.heap.size A n w) : Calls Try.prog 28 #[.slice A n c] w (DrawJ1 w) := by
  have HC0 := Lib.hid (cur_new w A n c 75 h)
  clear h
  go_enter Try.func28, Try.ntmps28
  go_wp2_with fail
  refine (passes_any _ _ _ _ _ _ _ HC0.out (by omega)).mono ?_
  rintro e w1 ⟨L, gb, cap, k1, hl, hEB, hk1, hk2, hgb, rfl, hR, hC, hg⟩
  have HR1 := Lib.hid hR
  have HC1 := Lib.hid hC
  have HG1 := Lib.hid hg
  have hz : w.heap.size < (w.alloc (.cells #[.slice A n c, .int .i64 0, .int .u64 0] 75)).heap.size := by simp
  clear hR hC hg HC0 hEB
  go_wp2_with fail
  refine (line11_any _ _ _ _ _ _ _ HC1.out (by omega)).mono ?_
  rintro e w2 ⟨x, k2, ha1, hb1, rfl, hc, hg⟩
  have HD : Hid (DrawnJ w L gb cap w2) := Lib.hid (by
    have HR2 := HR1.out.draw hg hz
    exact ⟨hl, HR2.cap.1, HR2.cap.2, HR2.sds, below_readerJ (grown_trans HG1.out hg)⟩)
  clear hc hg HR1 HC1 HG1
  go_wp2_with fail
  go_ret2
  exact ⟨L, gb, cap, x, rfl, HD.out⟩
theorem draw_opp (A : Option Addr) (n c : Nat) (w : World) (h : CodeRow w.heap.size A n w) : Calls Try.prog 31 #[.slice A n c] w (DrawJ1 w) := by
  have H := Lib.hid (draw_min A n c w h)
  clear h
  go_enter Try.func31, Try.ntmps31
  go_wp2_with fail
  refine H.out.mono ?_
  rintro e w1 ⟨L, gb, cap, x, rfl, hd⟩
  have HD := Lib.hid hd
  clear hd
  go_wp2_with fail
  go_ret2
  exact ⟨L, gb, cap, x, rfl, HD.out⟩
theorem draw_good (A : Option Addr) (n c : Nat) (w : World) (h : CodeRow w.heap.size A n w) : Calls Try.prog 43 #[.slice A n c] w (DrawJ1 w) := by
  have H := Lib.hid (draw_min A n c w h)
  clear h
  go_enter Try.func43, Try.ntmps43
  go_wp2_with fail
  refine H.out.mono ?_
  rintro e w1 ⟨L, gb, cap, x, rfl, hd⟩
  have HD := Lib.hid hd
  clear hd
  go_wp2_with fail
  go_ret2
  exact ⟨L, gb, cap, x, rfl, HD.out⟩
set_option maxRecDepth 20000 in
set_option maxHeartbeats 3200000 in
theorem draw_busy (A : Option Addr) (n c : Nat) (w : World) (h : CodeRow w.heap.size A n w) : Calls Try.prog 25 #[.slice A n c] w (DrawJ2 w) := by
  have HC0 := Lib.hid (cur_new w A n c 75 h)
  clear h
  go_enter Try.func25, Try.ntmps25
  go_wp2_with fail
  refine (passes_any _ _ _ _ _ _ _ HC0.out (by omega)).mono ?_
  rintro e w1 ⟨L, gb, cap, k1, hl, hEB, hk1, hk2, hgb, rfl, hR, hC, hg⟩
  have HR1 := Lib.hid hR
  have HC1 := Lib.hid hC
  have HG1 := Lib.hid hg
  have hz : w.heap.size < (w.alloc (.cells #[.slice A n c, .int .i64 0, .int .u64 0] 75)).heap.size := by simp
  clear hR hC hg HC0 hEB
  have hgl1 := HC1.out.lt
  have HCA := Lib.hid (HC1.out.alloc (.cells ([0, 0, 5, 100, 110, 9999, -1, 10000].map (Value.int .i64)).toArray 3))
  have HHA := Lib.hid (has_ints w1 [0, 0, 5, 100, 110, 9999, -1, 10000])
  go_wp2_with fail
  refine (pick_any _ _ _ _ _ _ 24 _ HCA.out (by omega) (by decide) (by decide)).mono ?_
  rintro e w2 ⟨q2, hq2, rfl, hc, hg⟩
  have HC2 := Lib.hid hc
  have HG2 := Lib.hid (grown_trans (grown_trans HG1.out (World.grownBy_alloc w1 (.cells ([0, 0, 5, 100, 110, 9999, -1, 10000].map (Value.int .i64)).toArray 3) _)) hg)
  have HR2 := Lib.hid ((HR1.out.alloc (.cells ([0, 0, 5, 100, 110, 9999, -1, 10000].map (Value.int .i64)).toArray 3)).draw hg hz)
  have HH2 := Lib.hid (has_grown HHA.out hg (fun e => by have := Option.some.inj e; omega))
  clear hc hg HC1 HG1 HR1 HCA HHA
  obtain ⟨r2, hr2, hra2, hrb2⟩ : ∃ r : Nat, (6 : Int) + (q2 : Int) / 11 = r ∧ 6 ≤ r ∧ r ≤ 8 := ⟨6 + q2 / 11, by omega, by omega, by omega⟩
  go_wp2_with fail
  refine (among_pre _ _ _ _ _ _ _ _ r2 [0, 0, 5, 100, 110, 9999, -1, 10000] _ HC2.out (by omega) (by omega) (by simp <;> omega) (by decide) HH2.out (by omega)).mono ?_
  rintro e w3 ⟨x, _, rfl, hc, hg⟩
  have HC3 := Lib.hid hc
  have HG3 := Lib.hid (grown_trans HG2.out hg)
  have HR3 := Lib.hid (HR2.out.draw hg hz)
  clear hc hg HC2 HG2 HR2 HH2
  have hgl3 := HC3.out.lt
  have HCA := Lib.hid (HC3.out.alloc (.cells ([1, 20, 130, 10000, 10000, 0, 10001].map (Value.int .i64)).toArray 3))
  have HHA := Lib.hid (has_ints w3 [1, 20, 130, 10000, 10000, 0, 10001])
  go_wp2_with fail
  refine (pick_any _ _ _ _ _ _ 24 _ HCA.out (by omega) (by decide) (by decide)).mono ?_
  rintro e w4 ⟨q4, hq4, rfl, hc, hg⟩
  have HC4 := Lib.hid hc
  have HG4 := Lib.hid (grown_trans (grown_trans HG3.out (World.grownBy_alloc w3 (.cells ([1, 20, 130, 10000, 10000, 0, 10001].map (Value.int .i64)).toArray 3) _)) hg)
  have HR4 := Lib.hid ((HR3.out.alloc (.cells ([1, 20, 130, 10000, 10000, 0, 10001].map (Value.int .i64)).toArray 3)).draw hg hz)
  have HH4 := Lib.hid (has_grown HHA.out hg (fun e => by have := Option.some.inj e; omega))
  clear hc hg HC3 HG3 HR3 HCA HHA
  obtain ⟨r4, hr4, hra4, hrb4⟩ : ∃ r : Nat, (5 : Int) + (q4 : Int) / 11 = r ∧ 5 ≤ r ∧ r ≤ 7 := ⟨5 + q4 / 11, by omega, by omega, by omega⟩
  go_wp2_with fail
  refine (among_pre _ _ _ _ _ _ _ _ r4 [1, 20, 130, 10000, 10000, 0, 10001] _ HC4.out (by omega) (by omega) (by simp <;> omega) (by decide) HH4.out (by omega)).mono ?_
  rintro e w5 ⟨y, _, rfl, hc, hg⟩
  have HC5 := Lib.hid hc
  have HG5 := Lib.hid (grown_trans HG4.out hg)
  have HR5 := Lib.hid (HR4.out.draw hg hz)
  clear hc hg HC4 HG4 HR4 HH4
  have HD : Hid (DrawnJ w L gb cap w5) := Lib.hid ⟨hl, HR5.out.cap.1, HR5.out.cap.2, HR5.out.sds, below_readerJ HG5.out⟩
  clear HR5 HC5 HG5
  go_wp2_with fail
  go_ret3
  exact ⟨L, gb, cap, x, y, rfl, HD.out⟩
theorem one_new6 (w : World) (x : Value) (T : TypeId) : ∀ (j : Nat) (u : Value), [x][j]? = some u → (w.alloc (.cells #[x] T)).cell? ((⟨w.heap.size, 0, none⟩ : Addr).add j) = some u := by
  intro j u hu
  have h := Has.new w #[x] T
  rw [add_none, Nat.zero_add]
  exact h.at_ j u hu
theorem own_caps6 {W : World} {B T z n : Nat} {v : Value} {xs : List Value} (h : W.ownsRow B T z v (n + 1) xs) : ∃ g cap, v = .slice (some ⟨g, 0, none⟩) (n + 1) cap ∧ n + 1 ≤ cap ∧ cap ≤ maxLen := by
  rcases h.2 with ⟨_, h0⟩ | ⟨g, cap, cur, hv, _, _, h1, h2, _⟩
  · omega
  · exact ⟨g, cap, hv, h1, h2⟩
set_option maxRecDepth 20000 in
set_option maxHeartbeats 6400000 in
theorem draw_rep (A : Option Addr) (n c : Nat) (w : World) (h : CodeRow w.heap.size A n w) : Calls Try.prog 16 #[.slice A n c] w (DrawJI w) := by
  have HC0 := Lib.hid (cur_new w A n c 75 h)
  clear h
  go_enter Try.func16, Try.ntmps16
  go_wp2_with fail
  refine (passes_any _ _ _ _ _ _ _ HC0.out (by omega)).mono ?_
  rintro e w1 ⟨L, gb, cap, k1, hl, hEB, hk1, hk2, hgb, rfl, hR, hC, hg⟩
  have HR1 := Lib.hid hR
  have HC1 := Lib.hid hC
  have HG1 := Lib.hid hg
  have hz : w.heap.size < (w.alloc (.cells #[.slice A n c, .int .i64 0, .int .u64 0] 75)).heap.size := by simp
  clear hR hC hg HC0 hEB
  obtain ⟨i0, hi, hz0, hz1, hz2⟩ := info_parts info3
  have HI := Lib.hid (And.intro hi (And.intro hz0 (And.intro hz1 hz2)))
  clear hi hz0 hz1 hz2
  have hgl1 : w.heap.size < w1.heap.size := HC1.out.lt
  have HSZ : Hid (w1.heap.size ≤ w1.heap.size) := Lib.hid (Nat.le_refl _)
  have HI2 : Hid ((w1.alloc (.cells #[] 3)).ownsRow w1.heap.size 3 1 (.slice (some ⟨w1.heap.size, 0, none⟩) 0 0) 0 (ivs [])) := Lib.hid (col_start (w := w1) 3 1 (Below.refl _ _)).1
  have HC2 := Lib.hid (HC1.out.alloc (.cells #[] 3))
  have HR2 := Lib.hid (HR1.out.alloc (.cells #[] 3))
  have HG2 : Hid (w1.grownBy (w1.alloc (.cells #[] 3)) (some w.heap.size)) := Lib.hid (World.grownBy_alloc _ _ _)
  clear HC1
  go_wp2_with fail
  refine (pick_any _ _ _ _ _ _ 6 _ HC2.out (by omega) (by decide) (by decide)).mono ?_
  rintro e w2 ⟨r0, hr0, rfl, hc, hg⟩
  have HC3 := Lib.hid hc
  have HG3 := Lib.hid (grown_trans HG2.out hg)
  have HR3 := Lib.hid (HR2.out.draw hg hz)
  have HI3 := Lib.hid (own_any HI2.out hg (fun i e => by have := Option.some.inj e; omega))
  clear hc hg HC2 HG2 HR2 HI2
  go_wp2_with fail
  go_loopw [6, 7, 8] (fun s b i wr => ∃ (P : List Int) (gp cp k' : Nat) (r : Nat) (ln : Int), P.length + r ≤ 8 ∧ k' + 2 * r ≤ k1 + 30 ∧ s = .slice (some ⟨gp, 0, none⟩) P.length cp ∧ ((0 ≤ ln ∧ ln ≤ 100 * (P.length : Int)) ∧ b = .int .i64 ln ∧ i = .int .i64 r) ∧ Hid (wr.ownsRow w1.heap.size 3 1 (.slice (some ⟨gp, 0, none⟩) P.length cp) P.length (ivs P)) ∧ Hid (RJ (w.alloc (.cells #[.slice A n c, .int .i64 0, .int .u64 0] 75)).heap.size L (.slice (some ⟨gb, 0, none⟩) L.length cap) wr) ∧ Hid (Cur w.heap.size A n c w.heap.size k' wr) ∧ Hid (w1.grownBy wr (some w.heap.size))) (fun _ _ i _ => (intOf i).toNat)
  case atStart => exact ⟨[], w1.heap.size, 0, _, r0, 0, by simp <;> omega, by omega, rfl, ⟨by simp, rfl, rfl⟩, HI3, HR3, HC3, HG3⟩
  case round =>
    clear HI3 HR3 HC3 HG3
    obtain ⟨P, gp, cp, k', r, ln, hpr, hk3, rfl, ⟨hln, rfl, rfl⟩, hI, hR, hC, hG⟩ := hrel
    obtain ⟨hln0, hln1⟩ := hln
    by_cases hlt : 0 < r
    · obtain ⟨r, rfl⟩ : ∃ j, r = j + 1 := ⟨r - 1, by omega⟩
      have hr0' : decide (((r + 1 : Nat) : Int) > 0) = true := decide_eq_true (by omega)
      go_wp2_with fail
      refine (pick_any _ _ _ _ _ _ 2 _ hC.out (by omega) (by decide) (by decide)).mono ?_
      rintro e w3 ⟨y, hy, rfl, hc, hg⟩
      have HC4 := Lib.hid hc
      have HG4 := Lib.hid (grown_trans hG.out hg)
      have HR4 := Lib.hid (hR.out.draw hg hz)
      have HI4 := Lib.hid (own_any hI.out hg (fun i e => by have := Option.some.inj e; omega))
      clear hc hg hC hG hR hI
      go_wp2_with fail
      refine (pick_any _ _ _ _ _ _ 40 _ HC4.out (by omega) (by decide) (by decide)).mono ?_
      rintro e w4 ⟨u, hu, rfl, hc, hg⟩
      have HC6 := Lib.hid hc
      have HG6 := Lib.hid (grown_trans HG4.out hg)
      have HR6 := Lib.hid (HR4.out.draw hg hz)
      have HI6 := Lib.hid (own_any HI4.out hg (fun i e => by have := Option.some.inj e; omega))
      clear hc hg HC4 HG4 HR4 HI4
      obtain ⟨z, hzz, hz0, hz1⟩ : ∃ z : Nat, (u : Int) / 39 = z ∧ 0 ≤ z ∧ z ≤ 1 := ⟨u / 39, by omega, by omega, by omega⟩
      have hnx : 0 ≤ ln + 1 + y - z ∧ ln + 1 + y - z ≤ 100 * ((P.length : Int) + 1) := by omega
      have HV : Hid (∀ b, (Value.slice (some ⟨gp, 0, none⟩) P.length cp).ownBlock = some b → w1.heap.size ≤ b) := Lib.hid fun b e => by have e2 : gp = b := Option.some.inj e; have := (HI6.out.lt b e).1; omega
      have HNA := Lib.hid (World.ownsRow.alloc HI6.out (.cells #[.int .i64 (ln + 1 + y - z)] 3))
      have HS4 : Hid (w1.heap.size ≤ (w4.alloc (.cells #[.int .i64 (ln + 1 + y - z)] 3)).heap.size) := Lib.hid (by have h1 := HG6.out.size; have h2 := HSZ.out; simp; omega)
      go_wp2_with (at_builtin; go_loud (refine wpList_append_own _ rfl _ _ 25 rfl w1.heap.size 3 i0 (.int .i64 0) 1 8 Try.underlying25 HI.out.1 HI.out.2.1 HI.out.2.2.1 HI.out.2.2.2 rfl (by decide) _ _ _ rfl HNA.out ⟨w4.heap.size, 0, none⟩ 1 1 [.int .i64 (ln + 1 + y - z)] rfl rfl (one_new6 _ _ _) (by simp [Value.oneCell']) (by unfold maxLen; omega) (by omega) HS4.out ?_; intro v2 w5 hown' hgrow hne; have HN5 := Lib.hid hown'; have HGR := Lib.hid hgrow; clear hown' hgrow hne))
      obtain ⟨gp2, cp2, rfl, _, _⟩ := own_caps6 HN5.out
      have HI5 : Hid (w5.ownsRow w1.heap.size 3 1 (.slice (some ⟨gp2, 0, none⟩) (P ++ [(ln + 1 + y - z)]).length cp2) (P ++ [(ln + 1 + y - z)]).length (ivs (P ++ [(ln + 1 + y - z)]))) := by rw [ivs_snoc, List.length_append]; exact HN5
      have HC5 := Lib.hid ((HC6.out.alloc (.cells #[.int .i64 (ln + 1 + y - z)] 3)).past hgl1 HGR.out HV.out)
      have HG5 := Lib.hid (grown_past (w := w1) (grown_trans HG6.out (World.grownBy_alloc w4 (.cells #[.int .i64 (ln + 1 + y - z)] 3) (some w.heap.size))) HGR.out HV.out)
      have HR5 := Lib.hid (RJ.past HR1.out (HR6.out.alloc (.cells #[.int .i64 (ln + 1 + y - z)] 3)) HGR.out HV.out)
      have hll : (P ++ [(ln + 1 + y - z)]).length = P.length + 1 := by simp
      clear HC6 HG6 HR6 HI6 HNA HGR HV HN5
      go_roundw
      case rel => exact ⟨P ++ [ln + 1 + y - z], gp2, cp2, _, r, ln + 1 + y - z, by rw [hll]; omega, by omega, by first | rfl | rw [hll], ⟨by rw [hll]; omega, by first | rfl | go_num, by go_num⟩, HI5, HR5, HC5, HG5⟩
      case measure => simp [intOf]
    · obtain rfl : r = 0 := by omega
      go_wp2_with fail
      refine (one_any _ _ _ _ _ _ 24 _ hC.out (by omega) (by decide) (by decide)).mono ?_
      rintro e w3 ⟨b, rfl, hc, hg⟩
      have HC4 := Lib.hid hc
      have HG4 := Lib.hid (grown_trans hG.out hg)
      have HR4 := Lib.hid (hR.out.draw hg hz)
      have HI4 := Lib.hid (own_any hI.out hg (fun i e => by have := Option.some.inj e; omega))
      clear hc hg hC hG hR hI
      rcases b with _ | _
      · go_wp2_with fail
        go_ret2
        exact ⟨L, gb, cap, P, gp, cp, by omega, rfl, (ifun_of_own HI4.out).wide (by omega) (Nat.le_refl _), hl, HR4.out.cap.1, HR4.out.cap.2, HR4.out.sds, below_readerJ (grown_trans HG1.out HG4.out)⟩
      · have HZ3 := Lib.hid HG4.out.size
        have HCN := Lib.hid (HC4.out.alloc (.cells #[] 3))
        have HGN := Lib.hid (grown_trans HG4.out (World.grownBy_alloc w3 (.cells #[] 3) (some w.heap.size)))
        have HRN := Lib.hid (HR4.out.alloc (.cells #[] 3))
        have HIN : Hid ((w3.alloc (.cells #[] 3)).ownsRow w1.heap.size 3 1 (.slice (some ⟨w3.heap.size, 0, none⟩) 0 0) 0 (ivs [])) := Lib.hid (own_base (col_start (w := w3) 3 1 (Below.refl _ _)).1 HZ3.out)
        clear HC4 HG4 HR4 HI4
        go_wp2_with fail
        go_loopw [6, 9] (fun s i wr => ∃ (P : List Int) (gp cp k' : Nat), P.length ≤ 31 ∧ k' ≤ k1 + 60 + P.length ∧ s = .slice (some ⟨gp, 0, none⟩) P.length cp ∧ i = .int .i64 P.length ∧ Hid (wr.ownsRow w1.heap.size 3 1 (.slice (some ⟨gp, 0, none⟩) P.length cp) P.length (ivs P)) ∧ Hid (RJ (w.alloc (.cells #[.slice A n c, .int .i64 0, .int .u64 0] 75)).heap.size L (.slice (some ⟨gb, 0, none⟩) L.length cap) wr) ∧ Hid (Cur w.heap.size A n c w.heap.size k' wr) ∧ Hid (w1.grownBy wr (some w.heap.size))) (fun _ i _ => 31 - (intOf i).toNat)
        case atStart => exact ⟨[], w3.heap.size, 0, _, by simp, by simp <;> omega, rfl, rfl, HIN, HRN, HCN, HGN⟩
        case round =>
          clear HIN HRN HCN HGN
          obtain ⟨P, gp, cp, k', hpl, hk4, rfl, rfl, hI, hR, hC, hG⟩ := hrel
          go_wp2_with fail
          refine (pick_any _ _ _ _ _ _ 2 _ hC.out (by omega) (by decide) (by decide)).mono ?_
          rintro e w4 ⟨u, hu, rfl, hc, hg⟩
          have HC6 := Lib.hid hc
          have HG6 := Lib.hid (grown_trans hG.out hg)
          have HR6 := Lib.hid (hR.out.draw hg hz)
          have HI6 := Lib.hid (own_any hI.out hg (fun i e => by have := Option.some.inj e; omega))
          clear hc hg hC hG hR hI
          by_cases hlu : (P.length : Int) < 30 + u
          · skip
            have HV : Hid (∀ b, (Value.slice (some ⟨gp, 0, none⟩) P.length cp).ownBlock = some b → w1.heap.size ≤ b) := Lib.hid fun b e => by have e2 : gp = b := Option.some.inj e; have := (HI6.out.lt b e).1; omega
            have HNA := Lib.hid (World.ownsRow.alloc HI6.out (.cells #[.int .i64 ((P.length : Int) + 1)] 3))
            have HS4 : Hid (w1.heap.size ≤ (w4.alloc (.cells #[.int .i64 ((P.length : Int) + 1)] 3)).heap.size) := Lib.hid (by have h1 := HG6.out.size; have h2 := HSZ.out; simp; omega)
            go_wp2_with (at_builtin; go_loud (refine wpList_append_own _ rfl _ _ 25 rfl w1.heap.size 3 i0 (.int .i64 0) 1 8 Try.underlying25 HI.out.1 HI.out.2.1 HI.out.2.2.1 HI.out.2.2.2 rfl (by decide) _ _ _ rfl HNA.out ⟨w4.heap.size, 0, none⟩ 1 1 [.int .i64 ((P.length : Int) + 1)] rfl rfl (one_new6 _ _ _) (by simp [Value.oneCell']) (by unfold maxLen; omega) (by omega) HS4.out ?_; intro v2 w5 hown' hgrow hne; have HN5 := Lib.hid hown'; have HGR := Lib.hid hgrow; clear hown' hgrow hne))
            obtain ⟨gp2, cp2, rfl, _, _⟩ := own_caps6 HN5.out
            have HI5 : Hid (w5.ownsRow w1.heap.size 3 1 (.slice (some ⟨gp2, 0, none⟩) (P ++ [((P.length : Int) + 1)]).length cp2) (P ++ [((P.length : Int) + 1)]).length (ivs (P ++ [((P.length : Int) + 1)]))) := by rw [ivs_snoc, List.length_append]; exact HN5
            have HC5 := Lib.hid ((HC6.out.alloc (.cells #[.int .i64 ((P.length : Int) + 1)] 3)).past hgl1 HGR.out HV.out)
            have HG5 := Lib.hid (grown_past (w := w1) (grown_trans HG6.out (World.grownBy_alloc w4 (.cells #[.int .i64 ((P.length : Int) + 1)] 3) (some w.heap.size))) HGR.out HV.out)
            have HR5 := Lib.hid (RJ.past HR1.out (HR6.out.alloc (.cells #[.int .i64 ((P.length : Int) + 1)] 3)) HGR.out HV.out)
            have hll : (P ++ [((P.length : Int) + 1)]).length = P.length + 1 := by simp
            clear HC6 HG6 HR6 HI6 HNA HGR HV HN5
            go_roundw
            case rel => exact ⟨P ++ [(P.length : Int) + 1], gp2, cp2, _, by rw [hll]; omega, by rw [hll]; omega, by first | rfl | rw [hll], by rw [hll]; go_num, HI5, HR5, HC5, HG5⟩
            case measure => simp [intOf]; omega
          · go_wp2_with fail
            go_ret2
            exact ⟨L, gb, cap, P, gp, cp, by omega, rfl, (ifun_of_own HI6.out).wide (by omega) (Nat.le_refl _), hl, HR6.out.cap.1, HR6.out.cap.2, HR6.out.sds, below_readerJ (grown_trans HG1.out HG6.out)⟩
set_option maxRecDepth 20000 in
set_option maxHeartbeats 6400000 in
theorem draw_put (A : Option Addr) (n c : Nat) (w : World) (h : CodeRow w.heap.size A n w) : Calls Try.prog 38 #[.slice A n c] w (DrawJP w) := by
  have hb0 : Below w.heap.size w (w.alloc (.cells #[.int .i64 0, .int .i64 0, .int .i64 0, .int .i64 0, .int .i64 0, .int .i64 0] 40)) := (Below.refl _ _).alloc (Nat.le_refl _) _
  have HC0 := Lib.hid (cur_new (w.alloc (.cells #[.int .i64 0, .int .i64 0, .int .i64 0, .int .i64 0, .int .i64 0, .int .i64 0] 40)) A n c 75 (h.below hb0 (by simp)))
  have HZ0 : Hid (Has ((w.alloc (.cells #[.int .i64 0, .int .i64 0, .int .i64 0, .int .i64 0, .int .i64 0, .int .i64 0] 40)).alloc (.cells #[.slice A n c, .int .i64 0, .int .u64 0] 75)) w.heap.size [.int .i64 0, .int .i64 0, .int .i64 0, .int .i64 0, .int .i64 0, .int .i64 0]) := Lib.hid ((show Has (w.alloc (.cells #[.int .i64 0, .int .i64 0, .int .i64 0, .int .i64 0, .int .i64 0, .int .i64 0] 40)) w.heap.size [.int .i64 0, .int .i64 0, .int .i64 0, .int .i64 0, .int .i64 0, .int .i64 0] by simpa using Has.new w #[.int .i64 0, .int .i64 0, .int .i64 0, .int .i64 0, .int .i64 0, .int .i64 0] 40).alloc _)
  have hzz : (w.alloc (.cells #[.int .i64 0, .int .i64 0, .int .i64 0, .int .i64 0, .int .i64 0, .int .i64 0] 40)).heap.size = w.heap.size + 1 := by simp
  rw [hzz] at HC0
  clear h hb0 hzz
  have HNE : Hid (some w.heap.size ≠ some (w.heap.size + 1)) := Lib.hid fun e => by have := Option.some.inj e; omega
  have hz : w.heap.size + 1 < ((w.alloc (.cells #[.int .i64 0, .int .i64 0, .int .i64 0, .int .i64 0, .int .i64 0, .int .i64 0] 40)).alloc (.cells #[.slice A n c, .int .i64 0, .int .u64 0] 75)).heap.size := by simp
  go_enter Try.func38, Try.ntmps38
  go_wp2_with fail
  refine (passes_any _ _ _ _ _ _ _ HC0.out (by omega)).mono ?_
  rintro e w1 ⟨L, gb, cap, k1, hl, hEB, hk1, hk2, hgb, rfl, hR, hC, hg⟩
  have HR1 := Lib.hid hR
  have HC1 := Lib.hid hC
  have HG1 := Lib.hid hg
  have HZ1 := Lib.hid (has_grown HZ0.out hg HNE.out)
  have HEB := Lib.hid hEB
  clear hR hC hg HC0 HZ0 hEB
  go_wp2_with fail
  refine (among_at (fun x => 0 ≤ x ∧ x ≤ 9000) _ _ _ _ _ _ _ 3 [0, 500, 9000] _ HC1.out rfl (by omega) (by decide) (by decide) (by intro x hx; simp only [List.mem_cons, List.not_mem_nil, or_false] at hx; omega)).mono ?_
  rintro e w2 ⟨bg, ⟨bg0, bg1⟩, rfl, hc, hg⟩
  have HC2 := Lib.hid hc
  have HG2 := Lib.hid (grown_trans HG1.out hg)
  have HR2 := Lib.hid (HR1.out.draw hg hz)
  have HZ2 := Lib.hid (has_grown HZ1.out hg HNE.out)
  clear hc hg HC1 HG1 HR1 HZ1
  by_cases h0 : 0 < L.length
  rotate_left
  · have hd0 : decide ((L.length : Int) > 0) = false := decide_eq_false (by omega)
    go_wp2_with fail
    refine (pass_any _ _ _ _ _ _ bg _ HC2.out (by omega) (by omega) (by omega)).mono ?_
    rintro e W9 ⟨p, k9, _, _, _, rfl, hc, hg⟩
    have HR9 := Lib.hid (HR2.out.draw hg hz)
    have HG9 := Lib.hid (grown_trans HG2.out hg)
    have HZ9 := Lib.hid (has_grown HZ2.out hg HNE.out)
    clear hc hg HC2 HG2 HR2 HZ2
    have z0 := HZ9.out.at_ 0 _ rfl
    have f0 := HZ9.out.free 0
    have z1 := HZ9.out.at_ 1 _ rfl
    have f1 := HZ9.out.free 1
    have z2 := HZ9.out.at_ 2 _ rfl
    have f2 := HZ9.out.free 2
    have z3 := HZ9.out.at_ 3 _ rfl
    have f3 := HZ9.out.free 3
    have z4 := HZ9.out.at_ 4 _ rfl
    have f4 := HZ9.out.free 4
    have z5 := HZ9.out.at_ 5 _ rfl
    have f5 := HZ9.out.free 5
    have HQ := Lib.hid (lay6 HZ9.out rfl p)
    have HBR := Lib.hid (setL_below [.int .i64 p.ln, .int .i64 p.bg, .int .i64 p.en, .int .i64 p.pi, .int .i64 p.bd, .int .i64 p.co] (below_readerJ1 HG9.out) (Nat.le_refl w.heap.size) 0)
    have HRR : Hid (RJ _ L (.slice (some ⟨gb, 0, none⟩) L.length cap) ((((((W9.setCell ⟨w.heap.size, 0, none⟩ (.int .i64 p.ln)).setCell ⟨w.heap.size, 1, none⟩ (.int .i64 p.bg)).setCell ⟨w.heap.size, 2, none⟩ (.int .i64 p.en)).setCell ⟨w.heap.size, 3, none⟩ (.int .i64 p.pi)).setCell ⟨w.heap.size, 4, none⟩ (.int .i64 p.bd)).setCell ⟨w.heap.size, 5, none⟩ (.int .i64 p.co))) := Lib.hid (show RJ _ L _ _ from (own_any (own_any (own_any (own_any (own_any (own_any HR9.out (set_grown _ w.heap.size 0 (.int .i64 p.ln)) (fun i e => by have := Option.some.inj e; have := hz; omega)) (set_grown _ w.heap.size 1 (.int .i64 p.bg)) (fun i e => by have := Option.some.inj e; have := hz; omega)) (set_grown _ w.heap.size 2 (.int .i64 p.en)) (fun i e => by have := Option.some.inj e; have := hz; omega)) (set_grown _ w.heap.size 3 (.int .i64 p.pi)) (fun i e => by have := Option.some.inj e; have := hz; omega)) (set_grown _ w.heap.size 4 (.int .i64 p.bd)) (fun i e => by have := Option.some.inj e; have := hz; omega)) (set_grown _ w.heap.size 5 (.int .i64 p.co)) (fun i e => by have := Option.some.inj e; have := hz; omega)))
    have r0 := HQ.out.at_ 0 _ rfl
    have r1 := HQ.out.at_ 1 _ rfl
    have r2 := HQ.out.at_ 2 _ rfl
    have r3 := HQ.out.at_ 3 _ rfl
    have r4 := HQ.out.at_ 4 _ rfl
    have r5 := HQ.out.at_ 5 _ rfl
    simp only [setL] at r0 r1 r2 r3 r4 r5
    go_wp2_with fail
    refine bodyPost_ret (v := .tuple #[.slice (some ⟨gb, 0, none⟩) L.length cap, .agg #[.int .i64 p.ln, .int .i64 p.bg, .int .i64 p.en, .int .i64 p.pi, .int .i64 p.bd, .int .i64 p.co]]) (by simp [results, Try.results38, go_sem, r0, r1, r2, r3, r4, r5]) rfl ⟨L, gb, cap, p, rfl, hl, HRR.out.cap.1, HRR.out.cap.2, HRR.out.sds, HBR.out⟩
  have hd0 : decide ((L.length : Int) > 0) = true := decide_eq_true (by omega)
  go_wp2_with fail
  refine (one_any _ _ _ _ _ _ 4 _ HC2.out (by omega) (by decide) (by decide)).mono ?_
  rintro e w3 ⟨b, rfl, hc, hg⟩
  have HC3 := Lib.hid hc
  have HG3 := Lib.hid (grown_trans HG2.out hg)
  have HR3 := Lib.hid (HR2.out.draw hg hz)
  have HZ3 := Lib.hid (has_grown HZ2.out hg HNE.out)
  clear hc hg HC2 HG2 HR2 HZ2
  rcases b with _ | _
  · go_wp2_with fail
    refine (pick_ge1 _ _ _ _ _ _ L.length _ HC3.out (by omega) (by omega) (by omega)).mono ?_
    rintro e w4 ⟨v, k4, hv, hk3, hk4, rfl, hc, hg⟩
    have HC4 := Lib.hid hc
    have HG4 := Lib.hid (grown_trans HG3.out hg)
    have HR4 := Lib.hid (HR3.out.draw hg hz)
    have HZ4 := Lib.hid (has_grown HZ3.out hg HNE.out)
    clear hc hg HC3 HG3 HR3 HZ3
    have p0 := HR4.out.en_ hv
    obtain ⟨e0, e1⟩ := enB_at HEB.out hv
    obtain ⟨en, hen⟩ : ∃ en, (psAt L v).en = en := ⟨_, rfl⟩
    rw [hen] at p0 e0 e1
    clear hen
    go_wp2_with fail
    refine (pass_any _ _ _ _ _ _ en _ HC4.out (by omega) (by omega) (by omega)).mono ?_
    rintro e W9 ⟨p, k9, _, _, _, rfl, hc, hg⟩
    have HR9 := Lib.hid (HR4.out.draw hg hz)
    have HG9 := Lib.hid (grown_trans HG4.out hg)
    have HZ9 := Lib.hid (has_grown HZ4.out hg HNE.out)
    clear hc hg HC4 HG4 HR4 HZ4
    have z0 := HZ9.out.at_ 0 _ rfl
    have f0 := HZ9.out.free 0
    have z1 := HZ9.out.at_ 1 _ rfl
    have f1 := HZ9.out.free 1
    have z2 := HZ9.out.at_ 2 _ rfl
    have f2 := HZ9.out.free 2
    have z3 := HZ9.out.at_ 3 _ rfl
    have f3 := HZ9.out.free 3
    have z4 := HZ9.out.at_ 4 _ rfl
    have f4 := HZ9.out.free 4
    have z5 := HZ9.out.at_ 5 _ rfl
    have f5 := HZ9.out.free 5
    have HQ := Lib.hid (lay6 HZ9.out rfl p)
    have HBR := Lib.hid (setL_below [.int .i64 p.ln, .int .i64 p.bg, .int .i64 p.en, .int .i64 p.pi, .int .i64 p.bd, .int .i64 p.co] (below_readerJ1 HG9.out) (Nat.le_refl w.heap.size) 0)
    have HRR : Hid (RJ _ L (.slice (some ⟨gb, 0, none⟩) L.length cap) ((((((W9.setCell ⟨w.heap.size, 0, none⟩ (.int .i64 p.ln)).setCell ⟨w.heap.size, 1, none⟩ (.int .i64 p.bg)).setCell ⟨w.heap.size, 2, none⟩ (.int .i64 p.en)).setCell ⟨w.heap.size, 3, none⟩ (.int .i64 p.pi)).setCell ⟨w.heap.size, 4, none⟩ (.int .i64 p.bd)).setCell ⟨w.heap.size, 5, none⟩ (.int .i64 p.co))) := Lib.hid (show RJ _ L _ _ from (own_any (own_any (own_any (own_any (own_any (own_any HR9.out (set_grown _ w.heap.size 0 (.int .i64 p.ln)) (fun i e => by have := Option.some.inj e; have := hz; omega)) (set_grown _ w.heap.size 1 (.int .i64 p.bg)) (fun i e => by have := Option.some.inj e; have := hz; omega)) (set_grown _ w.heap.size 2 (.int .i64 p.en)) (fun i e => by have := Option.some.inj e; have := hz; omega)) (set_grown _ w.heap.size 3 (.int .i64 p.pi)) (fun i e => by have := Option.some.inj e; have := hz; omega)) (set_grown _ w.heap.size 4 (.int .i64 p.bd)) (fun i e => by have := Option.some.inj e; have := hz; omega)) (set_grown _ w.heap.size 5 (.int .i64 p.co)) (fun i e => by have := Option.some.inj e; have := hz; omega)))
    have r0 := HQ.out.at_ 0 _ rfl
    have r1 := HQ.out.at_ 1 _ rfl
    have r2 := HQ.out.at_ 2 _ rfl
    have r3 := HQ.out.at_ 3 _ rfl
    have r4 := HQ.out.at_ 4 _ rfl
    have r5 := HQ.out.at_ 5 _ rfl
    simp only [setL] at r0 r1 r2 r3 r4 r5
    go_wp2_with fail
    refine bodyPost_ret (v := .tuple #[.slice (some ⟨gb, 0, none⟩) L.length cap, .agg #[.int .i64 p.ln, .int .i64 p.bg, .int .i64 p.en, .int .i64 p.pi, .int .i64 p.bd, .int .i64 p.co]]) (by simp [results, Try.results38, go_sem, r0, r1, r2, r3, r4, r5]) rfl ⟨L, gb, cap, p, rfl, hl, HRR.out.cap.1, HRR.out.cap.2, HRR.out.sds, HBR.out⟩
  · skip
    go_wp2_with fail
    refine (pass_any _ _ _ _ _ _ bg _ HC3.out (by omega) (by omega) (by omega)).mono ?_
    rintro e W9 ⟨p, k9, _, _, _, rfl, hc, hg⟩
    have HR9 := Lib.hid (HR3.out.draw hg hz)
    have HG9 := Lib.hid (grown_trans HG3.out hg)
    have HZ9 := Lib.hid (has_grown HZ3.out hg HNE.out)
    clear hc hg HC3 HG3 HR3 HZ3
    have z0 := HZ9.out.at_ 0 _ rfl
    have f0 := HZ9.out.free 0
    have z1 := HZ9.out.at_ 1 _ rfl
    have f1 := HZ9.out.free 1
    have z2 := HZ9.out.at_ 2 _ rfl
    have f2 := HZ9.out.free 2
    have z3 := HZ9.out.at_ 3 _ rfl
    have f3 := HZ9.out.free 3
    have z4 := HZ9.out.at_ 4 _ rfl
    have f4 := HZ9.out.free 4
    have z5 := HZ9.out.at_ 5 _ rfl
    have f5 := HZ9.out.free 5
    have HQ := Lib.hid (lay6 HZ9.out rfl p)
    have HBR := Lib.hid (setL_below [.int .i64 p.ln, .int .i64 p.bg, .int .i64 p.en, .int .i64 p.pi, .int .i64 p.bd, .int .i64 p.co] (below_readerJ1 HG9.out) (Nat.le_refl w.heap.size) 0)
    have HRR : Hid (RJ _ L (.slice (some ⟨gb, 0, none⟩) L.length cap) ((((((W9.setCell ⟨w.heap.size, 0, none⟩ (.int .i64 p.ln)).setCell ⟨w.heap.size, 1, none⟩ (.int .i64 p.bg)).setCell ⟨w.heap.size, 2, none⟩ (.int .i64 p.en)).setCell ⟨w.heap.size, 3, none⟩ (.int .i64 p.pi)).setCell ⟨w.heap.size, 4, none⟩ (.int .i64 p.bd)).setCell ⟨w.heap.size, 5, none⟩ (.int .i64 p.co))) := Lib.hid (show RJ _ L _ _ from (own_any (own_any (own_any (own_any (own_any (own_any HR9.out (set_grown _ w.heap.size 0 (.int .i64 p.ln)) (fun i e => by have := Option.some.inj e; have := hz; omega)) (set_grown _ w.heap.size 1 (.int .i64 p.bg)) (fun i e => by have := Option.some.inj e; have := hz; omega)) (set_grown _ w.heap.size 2 (.int .i64 p.en)) (fun i e => by have := Option.some.inj e; have := hz; omega)) (set_grown _ w.heap.size 3 (.int .i64 p.pi)) (fun i e => by have := Option.some.inj e; have := hz; omega)) (set_grown _ w.heap.size 4 (.int .i64 p.bd)) (fun i e => by have := Option.some.inj e; have := hz; omega)) (set_grown _ w.heap.size 5 (.int .i64 p.co)) (fun i e => by have := Option.some.inj e; have := hz; omega)))
    have r0 := HQ.out.at_ 0 _ rfl
    have r1 := HQ.out.at_ 1 _ rfl
    have r2 := HQ.out.at_ 2 _ rfl
    have r3 := HQ.out.at_ 3 _ rfl
    have r4 := HQ.out.at_ 4 _ rfl
    have r5 := HQ.out.at_ 5 _ rfl
    simp only [setL] at r0 r1 r2 r3 r4 r5
    go_wp2_with fail
    refine bodyPost_ret (v := .tuple #[.slice (some ⟨gb, 0, none⟩) L.length cap, .agg #[.int .i64 p.ln, .int .i64 p.bg, .int .i64 p.en, .int .i64 p.pi, .int .i64 p.bd, .int .i64 p.co]]) (by simp [results, Try.results38, go_sem, r0, r1, r2, r3, r4, r5]) rfl ⟨L, gb, cap, p, rfl, hl, HRR.out.cap.1, HRR.out.cap.2, HRR.out.sds, HBR.out⟩
end Go.Proofs.Ytllfmjnniagjfaa
