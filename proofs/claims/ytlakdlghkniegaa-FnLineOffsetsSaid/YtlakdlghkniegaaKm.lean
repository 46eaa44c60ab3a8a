/-
  Draws with crossings: contracts of spec.l1Cur.lineIn and the draws of chapter 10 over this translation. Conditions: stated at each theorem.
-/
import Derived.Test.YtlakdlghkniegaaKr
namespace Go.Proofs.Ytlakdlghkniegaa
open Go.RowKit Go.Sort
set_option linter.unusedVariables false

/-- A row of crossings that is drawn. -/
def DrawnX (w : World) (L : List XD) (gb cap : Nat) (w' : World) : Prop :=
  L.length ≤ 11 ∧ L.length ≤ cap ∧ SdsX w' w'.heap.size (some ⟨gb, 0, none⟩) L.length L ∧ Below w.heap.size w w'
def DrawX0 (w : World) (e : Ending) (w' : World) : Prop := ∃ (L : List XD) (gb cap : Nat), e = .returned (.slice (some ⟨gb, 0, none⟩) L.length cap) ∧ DrawnX w L gb cap w'
def DrawX1 (w : World) (e : Ending) (w' : World) : Prop := ∃ (L : List XD) (gb cap : Nat) (x : Int), e = .returned (.tuple #[.slice (some ⟨gb, 0, none⟩) L.length cap, .int .i64 x]) ∧ DrawnX w L gb cap w'
def DrawX2 (w : World) (e : Ending) (w' : World) : Prop := ∃ (L : List XD) (gb cap : Nat) (x y : Int), e = .returned (.tuple #[.slice (some ⟨gb, 0, none⟩) L.length cap, .int .i64 x, .int .i64 y]) ∧ DrawnX w L gb cap w'
def DrawXC (w : World) (e : Ending) (w' : World) : Prop := ∃ (L : List XD) (gb cap : Nat) (x y : Int), (-100000 ≤ y ∧ y ≤ 100000) ∧ e = .returned (.tuple #[.slice (some ⟨gb, 0, none⟩) L.length cap, .int .i64 x, .int .i64 y]) ∧ DrawnX w L gb cap w'
def DrawX3 (w : World) (e : Ending) (w' : World) : Prop := ∃ (L : List XD) (gb cap : Nat) (x y z : Int), e = .returned (.tuple #[.slice (some ⟨gb, 0, none⟩) L.length cap, .int .i64 x, .int .i64 y, .int .i64 z]) ∧ DrawnX w L gb cap w'
theorem below_readerX {w W : World} {o : Obj} (hg : (w.alloc o).grownBy W (some w.heap.size)) : Below w.heap.size w W := below_of ((Below.refl w.heap.size w).alloc (Nat.le_refl _) o) hg (by simp) (Nat.le_refl _)
theorem below_readerX1 {w W : World} {o o' : Obj} (hg : ((w.alloc o).alloc o').grownBy W (some (w.heap.size + 1))) : Below w.heap.size w W := below_of (((Below.refl w.heap.size w).alloc (Nat.le_refl _) o).alloc (by simp) o') hg (by simp; omega) (by omega)
theorem RX.at_ {base : Nat} {L : List XD} {gb cap : Nat} {W : World} (h : RX base L (.slice (some ⟨gb, 0, none⟩) L.length cap) W) {k : Nat} (hk : k < L.length) : W.cell? ⟨gb, k * 4, none⟩ = some (.int .i64 (xdAt L k).ln) := by
  obtain ⟨b, o, v, hA, _, hL, p0, _⟩ := h.sds.2 k hk
  injection hA with hA
  injection hA with h1 h2
  subst h1 h2
  rw [xdAt_at hL]
  simpa using p0
set_option maxRecDepth 20000 in
set_option maxHeartbeats 3200000 in
theorem lineIn_any (B : Nat) (A : Option Addr) (n c g k : Nat) (L : List XD) (gb cap base : Nat) (w : World) (h : Cur B A n c g k w) (hk : k < 700000) (hR : RX base L (.slice (some ⟨gb, 0, none⟩) L.length cap) w) (hgb : g < base) (hl : L.length ≤ 11) :
    Calls Try.prog 74 #[.pointer (some ⟨g, 0, none⟩), .slice (some ⟨gb, 0, none⟩) L.length cap] w (IdPost B A n c g k w) := by
  have HC0 := Lib.hid h
  have HR0 := Lib.hid hR
  clear h hR
  go_enter Try.func74, Try.ntmps74
  rcases Nat.eq_zero_or_pos L.length with h0 | h0
  · rw [h0]
    clear HR0 h0
    go_wp2_with fail
    refine (among_at AnyI _ _ _ _ _ _ _ 4 [0, 1, 5, 100] _ HC0.out rfl (by omega) (by decide) (by decide) (fun _ _ => trivial)).mono ?_
    rintro e w1 ⟨x, _, rfl, hc, hg⟩
    have HP : Hid (IdPost B A n c g k w (.returned (.int .i64 x)) w1) := Lib.hid ⟨x, _, by omega, by omega, rfl, hc, hg⟩
    clear hc hg HC0
    go_wp2_with fail
    go_ret
    exact HP.out
  have hne : ((L.length : Int) == 0) = false := beq_eq_false_iff_ne.2 (by omega)
  go_wp2_with fail
  refine (one_any _ _ _ _ _ _ 12 _ HC0.out (by omega) (by decide) (by decide)).mono ?_
  rintro e w1 ⟨b, rfl, hc, hg⟩
  have HC1 := Lib.hid hc
  have HG1 := Lib.hid hg
  have HR1 := Lib.hid (HR0.out.draw hg hgb)
  clear hc hg HC0 HR0
  rcases b with _ | _
  · go_wp2_with fail
    refine (pick_ge1 _ _ _ _ _ _ L.length _ HC1.out (by omega) (by omega) (by omega)).mono ?_
    rintro e w2 ⟨v, k2, hv, hk1, hk2, rfl, hc, hg⟩
    have HR2 := Lib.hid (HR1.out.draw hg hgb)
    have p0 := HR2.out.at_ hv
    have HP : Hid (IdPost B A n c g k w (.returned (.int .i64 (xdAt L v).ln)) w2) := Lib.hid ⟨_, k2, by omega, by omega, rfl, hc, grown_trans HG1.out hg⟩
    clear hc hg HC1 HG1 HR1
    go_wp2_with fail
    go_ret
    exact HP.out
  · go_wp2_with fail
    refine (among_at AnyI _ _ _ _ _ _ _ 4 [0, 1, 5, 100] _ HC1.out rfl (by omega) (by decide) (by decide) (fun _ _ => trivial)).mono ?_
    rintro e w2 ⟨x, _, rfl, hc, hg⟩
    have HP : Hid (IdPost B A n c g k w (.returned (.int .i64 x)) w2) := Lib.hid ⟨x, _, by omega, by omega, rfl, hc, grown_trans HG1.out hg⟩
    clear hc hg HC1 HG1 HR1
    go_wp2_with fail
    go_ret
    exact HP.out
set_option maxRecDepth 20000 in
set_option maxHeartbeats 3200000 in
theorem draw_cross (A : Option Addr) (n c : Nat) (w : World) (h : CodeRow w.heap.size A n w) : Calls Try.prog 67 #[.slice A n c] w (DrawX0 w) := by
  have HC0 := Lib.hid (cur_new w A n c 63 h)
  clear h
  go_enter Try.func67, Try.ntmps67
  go_wp2_with fail
  refine (crossings_any _ _ _ _ _ _ _ HC0.out (by omega)).mono ?_
  rintro e w1 ⟨L, gb, cap, k1, hl, hk1, hk2, hgb, hcap, rfl, hR, hC, hg⟩
  have HD : Hid (DrawnX w L gb cap w1) := Lib.hid ⟨hl, hcap, hR.sds, below_readerX hg⟩
  clear hR hC hg
  go_wp2_with fail
  go_ret
  exact ⟨L, gb, cap, rfl, HD.out⟩
theorem draw_mean (A : Option Addr) (n c : Nat) (w : World) (h : CodeRow w.heap.size A n w) : Calls Try.prog 42 #[.slice A n c] w (DrawX0 w) := by
  have H := Lib.hid (draw_cross A n c w h)
  clear h
  go_enter Try.func42, Try.ntmps42
  go_wp2_with fail
  refine H.out.mono ?_
  rintro e w1 ⟨L, gb, cap, rfl, hd⟩
  have HD := Lib.hid hd
  clear hd
  go_wp2_with fail
  go_ret
  exact ⟨L, gb, cap, rfl, HD.out⟩
theorem draw_great (A : Option Addr) (n c : Nat) (w : World) (h : CodeRow w.heap.size A n w) : Calls Try.prog 28 #[.slice A n c] w (DrawX0 w) := by
  have H := Lib.hid (draw_cross A n c w h)
  clear h
  go_enter Try.func28, Try.ntmps28
  go_wp2_with fail
  refine H.out.mono ?_
  rintro e w1 ⟨L, gb, cap, rfl, hd⟩
  have HD := Lib.hid hd
  clear hd
  go_wp2_with fail
  go_ret
  exact ⟨L, gb, cap, rfl, HD.out⟩
theorem draw_worst (A : Option Addr) (n c : Nat) (w : World) (h : CodeRow w.heap.size A n w) : Calls Try.prog 36 #[.slice A n c] w (DrawX0 w) := by
  have H := Lib.hid (draw_cross A n c w h)
  clear h
  go_enter Try.func36, Try.ntmps36
  go_wp2_with fail
  refine H.out.mono ?_
  rintro e w1 ⟨L, gb, cap, rfl, hd⟩
  have HD := Lib.hid hd
  clear hd
  go_wp2_with fail
  go_ret
  exact ⟨L, gb, cap, rfl, HD.out⟩
set_option maxRecDepth 20000 in
set_option maxHeartbeats 3200000 in
theorem draw_small (A : Option Addr) (n c : Nat) (w : World) (h : CodeRow w.heap.size A n w) : Calls Try.prog 22 #[.slice A n c] w (DrawX1 w) := by
  have HC0 := Lib.hid (cur_new w A n c 63 h)
  clear h
  go_enter Try.func22, Try.ntmps22
  go_wp2_with fail
  refine (crossings_any _ _ _ _ _ _ _ HC0.out (by omega)).mono ?_
  rintro e w1 ⟨L, gb, cap, k1, hl, hk1, hk2, hgb, hcap, rfl, hR, hC, hg⟩
  have HR1 := Lib.hid hR
  have HC1 := Lib.hid hC
  have HG1 := Lib.hid hg
  have hz : w.heap.size < (w.alloc (.cells #[.slice A n c, .int .i64 0, .int .u64 0] 63)).heap.size := by simp
  clear hR hC hg HC0
  go_wp2_with fail
  refine (among_at AnyI _ _ _ _ _ _ _ 7 [0, 1, 2, 10, 100, 101, -1] _ HC1.out rfl (by omega) (by decide) (by decide) (fun _ _ => trivial)).mono ?_
  rintro e w2 ⟨x, _, rfl, hc, hg⟩
  have HC2 := Lib.hid hc
  have HG2 := Lib.hid (grown_trans HG1.out hg)
  have HR2 := Lib.hid (HR1.out.draw hg hz)
  clear hc hg HC1 HG1 HR1
  have HD : Hid (DrawnX w L gb cap w2) := Lib.hid ⟨hl, hcap, HR2.out.sds, below_readerX HG2.out⟩
  clear HC2 HG2 HR2
  go_wp2_with fail
  go_ret2
  exact ⟨L, gb, cap, x, rfl, HD.out⟩
set_option maxRecDepth 20000 in
set_option maxHeartbeats 3200000 in
theorem draw_nt (A : Option Addr) (n c : Nat) (w : World) (h : CodeRow w.heap.size A n w) : Calls Try.prog 15 #[.slice A n c] w (DrawX2 w) := by
  have HC0 := Lib.hid (cur_new w A n c 63 h)
  clear h
  go_enter Try.func15, Try.ntmps15
  go_wp2_with fail
  refine (crossings_any _ _ _ _ _ _ _ HC0.out (by omega)).mono ?_
  rintro e w1 ⟨L, gb, cap, k1, hl, hk1, hk2, hgb, hcap, rfl, hR, hC, hg⟩
  have HR1 := Lib.hid hR
  have HC1 := Lib.hid hC
  have HG1 := Lib.hid hg
  have hz : w.heap.size < (w.alloc (.cells #[.slice A n c, .int .i64 0, .int .u64 0] 63)).heap.size := by simp
  clear hR hC hg HC0
  go_wp2_with fail
  refine (among_at AnyI _ _ _ _ _ _ _ 7 [0, 3, 5, 10, 500, 501, -1] _ HC1.out rfl (by omega) (by decide) (by decide) (fun _ _ => trivial)).mono ?_
  rintro e w2 ⟨x, _, rfl, hc, hg⟩
  have HC2 := Lib.hid hc
  have HG2 := Lib.hid (grown_trans HG1.out hg)
  have HR2 := Lib.hid (HR1.out.draw hg hz)
  clear hc hg HC1 HG1 HR1
  go_wp2_with fail
  refine (among_at AnyI _ _ _ _ _ _ _ 7 [0, 1, 2, 10, 100, 101, -1] _ HC2.out rfl (by omega) (by decide) (by decide) (fun _ _ => trivial)).mono ?_
  rintro e w3 ⟨y, _, rfl, hc, hg⟩
  have HC3 := Lib.hid hc
  have HG3 := Lib.hid (grown_trans HG2.out hg)
  have HR3 := Lib.hid (HR2.out.draw hg hz)
  clear hc hg HC2 HG2 HR2
  have HD : Hid (DrawnX w L gb cap w3) := Lib.hid ⟨hl, hcap, HR3.out.sds, below_readerX HG3.out⟩
  clear HC3 HG3 HR3
  go_wp2_with fail
  go_ret3
  exact ⟨L, gb, cap, x, y, rfl, HD.out⟩
set_option maxRecDepth 20000 in
set_option maxHeartbeats 3200000 in
theorem draw_pass (A : Option Addr) (n c : Nat) (w : World) (h : CodeRow w.heap.size A n w) : Calls Try.prog 25 #[.slice A n c] w (DrawX3 w) := by
  have HC0 := Lib.hid (cur_new w A n c 63 h)
  clear h
  go_enter Try.func25, Try.ntmps25
  go_wp2_with fail
  refine (crossings_any _ _ _ _ _ _ _ HC0.out (by omega)).mono ?_
  rintro e w1 ⟨L, gb, cap, k1, hl, hk1, hk2, hgb, hcap, rfl, hR, hC, hg⟩
  have HR1 := Lib.hid hR
  have HC1 := Lib.hid hC
  have HG1 := Lib.hid hg
  have hz : w.heap.size < (w.alloc (.cells #[.slice A n c, .int .i64 0, .int .u64 0] 63)).heap.size := by simp
  clear hR hC hg HC0
  go_wp2_with fail
  refine (among_at AnyI _ _ _ _ _ _ _ 6 [0, 3, 5, 10, 500, 501] _ HC1.out rfl (by omega) (by decide) (by decide) (fun _ _ => trivial)).mono ?_
  rintro e w2 ⟨x, _, rfl, hc, hg⟩
  have HC2 := Lib.hid hc
  have HG2 := Lib.hid (grown_trans HG1.out hg)
  have HR2 := Lib.hid (HR1.out.draw hg hz)
  clear hc hg HC1 HG1 HR1
  go_wp2_with fail
  refine (among_at AnyI _ _ _ _ _ _ _ 5 [0, 1, 2, 10, 100] _ HC2.out rfl (by omega) (by decide) (by decide) (fun _ _ => trivial)).mono ?_
  rintro e w3 ⟨y, _, rfl, hc, hg⟩
  have HC3 := Lib.hid hc
  have HG3 := Lib.hid (grown_trans HG2.out hg)
  have HR3 := Lib.hid (HR2.out.draw hg hz)
  clear hc hg HC2 HG2 HR2
  go_wp2_with fail
  refine (among_at AnyI _ _ _ _ _ _ _ 8 [0, 50, 66, 75, 95, 100, 101, -1] _ HC3.out rfl (by omega) (by decide) (by decide) (fun _ _ => trivial)).mono ?_
  rintro e w4 ⟨z, _, rfl, hc, hg⟩
  have HC4 := Lib.hid hc
  have HG4 := Lib.hid (grown_trans HG3.out hg)
  have HR4 := Lib.hid (HR3.out.draw hg hz)
  clear hc hg HC3 HG3 HR3
  have HD : Hid (DrawnX w L gb cap w4) := Lib.hid ⟨hl, hcap, HR4.out.sds, below_readerX HG4.out⟩
  clear HC4 HG4 HR4
  go_wp2_with fail
  refine bodyPost_ret (v := .tuple #[.slice (some ⟨gb, 0, none⟩) L.length cap, .int .i64 x, .int .i64 y, .int .i64 z]) (by simp [results, Try.results25, go_sem]) rfl ?_
  exact ⟨L, gb, cap, x, y, z, rfl, HD.out⟩
set_option maxRecDepth 20000 in
set_option maxHeartbeats 3200000 in
theorem draw_off (A : Option Addr) (n c : Nat) (w : World) (h : CodeRow w.heap.size A n w) : Calls Try.prog 32 #[.slice A n c] w (DrawX1 w) := by
  have HC0 := Lib.hid (cur_new w A n c 63 h)
  clear h
  go_enter Try.func32, Try.ntmps32
  go_wp2_with fail
  refine (crossings_any _ _ _ _ _ _ _ HC0.out (by omega)).mono ?_
  rintro e w1 ⟨L, gb, cap, k1, hl, hk1, hk2, hgb, hcap, rfl, hR, hC, hg⟩
  have HR1 := Lib.hid hR
  have HC1 := Lib.hid hC
  have HG1 := Lib.hid hg
  have hz : w.heap.size < (w.alloc (.cells #[.slice A n c, .int .i64 0, .int .u64 0] 63)).heap.size := by simp
  clear hR hC hg HC0
  go_wp2_with fail
  refine (lineIn_any _ _ _ _ _ _ L gb cap _ _ HC1.out (by omega) HR1.out hz hl).mono ?_
  rintro e w2 ⟨x, k2, ha1, hb1, rfl, hc, hg⟩
  have HC2 := Lib.hid hc
  have HG2 := Lib.hid (grown_trans HG1.out hg)
  have HR2 := Lib.hid (HR1.out.draw hg hz)
  clear hc hg HC1 HG1 HR1
  have HD : Hid (DrawnX w L gb cap w2) := Lib.hid ⟨hl, hcap, HR2.out.sds, below_readerX HG2.out⟩
  clear HC2 HG2 HR2
  go_wp2_with fail
  go_ret2
  exact ⟨L, gb, cap, x, rfl, HD.out⟩
set_option maxRecDepth 20000 in
set_option maxHeartbeats 3200000 in
theorem draw_corr (A : Option Addr) (n c : Nat) (w : World) (h : CodeRow w.heap.size A n w) : Calls Try.prog 39 #[.slice A n c] w (DrawXC w) := by
  have HC0 := Lib.hid (cur_new w A n c 63 h)
  clear h
  go_enter Try.func39, Try.ntmps39
  go_wp2_with fail
  refine (crossings_any _ _ _ _ _ _ _ HC0.out (by omega)).mono ?_
  rintro e w1 ⟨L, gb, cap, k1, hl, hk1, hk2, hgb, hcap, rfl, hR, hC, hg⟩
  have HR1 := Lib.hid hR
  have HC1 := Lib.hid hC
  have HG1 := Lib.hid hg
  have hz : w.heap.size < (w.alloc (.cells #[.slice A n c, .int .i64 0, .int .u64 0] 63)).heap.size := by simp
  clear hR hC hg HC0
  go_wp2_with fail
  refine (lineIn_any _ _ _ _ _ _ L gb cap _ _ HC1.out (by omega) HR1.out hz hl).mono ?_
  rintro e w2 ⟨x, k2, ha1, hb1, rfl, hc, hg⟩
  have HC2 := Lib.hid hc
  have HG2 := Lib.hid (grown_trans HG1.out hg)
  have HR2 := Lib.hid (HR1.out.draw hg hz)
  clear hc hg HC1 HG1 HR1
  go_wp2_with fail
  refine (among_at (fun x => -100000 ≤ x ∧ x ≤ 100000) _ _ _ _ _ _ _ 6 [0, 5, -10, 500, 19500, 30001] _ HC2.out rfl (by omega) (by decide) (by decide) (by intro x hx; simp only [List.mem_cons, List.not_mem_nil, or_false] at hx; omega)).mono ?_
  rintro e w3 ⟨y, hbd, rfl, hc, hg⟩
  have HC3 := Lib.hid hc
  have HG3 := Lib.hid (grown_trans HG2.out hg)
  have HR3 := Lib.hid (HR2.out.draw hg hz)
  clear hc hg HC2 HG2 HR2
  have HD : Hid (DrawnX w L gb cap w3) := Lib.hid ⟨hl, hcap, HR3.out.sds, below_readerX HG3.out⟩
  clear HC3 HG3 HR3
  go_wp2_with fail
  go_ret3
  exact ⟨L, gb, cap, x, y, hbd, rfl, HD.out⟩
end Go.Proofs.Ytlakdlghkniegaa
