/-
  Draws with craft: contracts of spec.l1Cur.craftId, depth5, spec.DrawUseFuel, DrawCraftFor, DrawFloatsOver, DrawAreCraft, DrawShallowestCraft over this translation. Conditions: stated at each theorem.
-/
import Derived.Test.YtfffahkommbheaaRw
namespace Go.Proofs.Ytfffahkommbheaa
open Go.RowKit Go.Sort

theorem pick_ge1 (B : Nat) (A : Option Addr) (n c g k m : Nat) (w : World) (h : Cur B A n c g k w) (hk : k < 1000000) (h1 : 0 < m) (h2 : m ≤ 200) :
    Calls Try.prog 83 #[.pointer (some ⟨g, 0, none⟩), .int .i64 m] w fun e w' => ∃ v k' : Nat, v < m ∧ k ≤ k' ∧ k' ≤ k + 1 ∧ e = .returned (.int .i64 v) ∧ Cur B A n c g k' w' ∧ w.grownBy w' (some g) := by
  rcases Nat.lt_or_ge 1 m with h3 | h3
  · refine (pick_any B A n c g k m w h hk h3 h2).mono ?_
    rintro e w' ⟨v, hv, he, hc, hg⟩
    exact ⟨v, k + 1, hv, by omega, by omega, he, hc, hg⟩
  · obtain rfl : m = 1 := by omega
    have HC := Lib.hid h
    clear h h1 h2 h3
    go_enter Try.func83, Try.ntmps83
    go_wp2_with fail
    go_ret
    exact ⟨0, k, by omega, by omega, by omega, rfl, HC.out, ⟨rfl, rfl, rfl, Nat.le_refl _, fun _ _ _ => rfl⟩⟩
theorem has_ints (w : World) (xs : List Int) : Has (w.alloc (.cells (xs.map (Value.int .i64)).toArray 3)) w.heap.size (xs.map (Value.int .i64)) := by
  have h := Has.new w (xs.map (Value.int .i64)).toArray 3
  simpa using h
/-- One of the first r numbers of a list that lies in a block of its own. -/
theorem among_pre (B : Nat) (A : Option Addr) (n c g k b cap r : Nat) (xs : List Int) (W : World) (h : Cur B A n c g k W) (hk : k < 1000000) (h1 : 1 < r) (h2 : r ≤ xs.length) (h3 : xs.length ≤ 200)
    (hb : Has W b (xs.map (Value.int .i64))) (hbg : b ≠ g) :
    Calls Try.prog 82 #[.pointer (some ⟨g, 0, none⟩), .slice (some ⟨b, 0, none⟩) r cap] W (AmongPost AnyI B A n c g k W) := by
  have hl : (xs.take r).length = r := by simp; omega
  have h := among_any AnyI B A n c g k b cap (xs.take r) W h hk (by omega) (by omega) (fun j x hx => by
    rw [List.getElem?_take] at hx
    split at hx
    · exact hb.2.1 j _ (by simp [hx])
    · cases hx) hb.1 hbg (fun _ _ => trivial)
  rwa [hl] at h
def IdPost (B : Nat) (A : Option Addr) (n c g k : Nat) (w : World) (e : Ending) (w' : World) : Prop :=
  ∃ (x : Int) (k' : Nat), k ≤ k' ∧ k' ≤ k + 4 ∧ e = .returned (.int .i64 x) ∧ Cur B A n c g k' w' ∧ w.grownBy w' (some g)
set_option maxRecDepth 20000 in
set_option maxHeartbeats 3200000 in
theorem craftId_any (B : Nat) (A : Option Addr) (n c g k base gb cap : Nat) (L : List CC) (w : World) (h : Cur B A n c g k w) (hk : k < 900000) (hl : L.length ≤ 7) (hr : RW base L (.slice (some ⟨gb, 0, none⟩) L.length cap) w) (hb : g < base) :
    Calls Try.prog 81 #[.pointer (some ⟨g, 0, none⟩), .slice (some ⟨gb, 0, none⟩) L.length cap] w (IdPost B A n c g k w) := by
  have HC0 := Lib.hid h
  have HR0 := Lib.hid hr
  clear h hr
  rcases Nat.eq_zero_or_pos L.length with h0 | h0
  · rw [h0]
    go_enter Try.func81, Try.ntmps81
    go_wp2_with fail
    refine (among_at AnyI _ _ _ _ _ _ _ 3 [0, 1, 50] _ HC0.out rfl (by omega) (by decide) (by decide) (fun _ _ => trivial)).mono ?_
    rintro e w1 ⟨x, _, rfl, hc, hg⟩
    have HX := Lib.hid (And.intro hc hg)
    clear hc hg
    go_wp2_with fail
    go_ret
    exact ⟨x, _, by omega, by omega, rfl, HX.out.1, HX.out.2⟩
  have hm0 : ((L.length : Int) == 0) = false := beq_eq_false_iff_ne.2 (by omega)
  go_enter Try.func81, Try.ntmps81
  go_wp2_with fail
  refine (one_any _ _ _ _ _ _ 10 _ HC0.out (by omega) (by decide) (by decide)).mono ?_
  rintro e w1 ⟨q, rfl, hc, hg⟩
  have HC1 := Lib.hid hc
  have HG1 := Lib.hid hg
  have HR1 := Lib.hid (HR0.out.draw hg hb)
  clear hc hg HC0 HR0
  rcases q with _ | _
  · go_wp2_with fail
    refine (pick_ge1 _ _ _ _ _ _ L.length _ HC1.out (by omega) h0 (by omega)).mono ?_
    rintro e w2 ⟨v, k2, hv, hk1, hk2, rfl, hc, hg⟩
    have HC2 := Lib.hid hc
    have HG2 := Lib.hid (grown_trans HG1.out hg)
    have HR2 := Lib.hid (HR1.out.draw hg hb)
    clear hc hg HC1 HG1 HR1
    obtain ⟨u, hu, c0, _⟩ := (fillC_row HR2.out rfl).done v hv
    clear hu
    go_wp2_with fail
    go_ret
    exact ⟨u.id, _, by omega, by omega, rfl, HC2.out, HG2.out⟩
  · go_wp2_with fail
    refine (among_at AnyI _ _ _ _ _ _ _ 3 [0, 1, 50] _ HC1.out rfl (by omega) (by decide) (by decide) (fun _ _ => trivial)).mono ?_
    rintro e w2 ⟨x, _, rfl, hc, hg⟩
    have HX := Lib.hid (And.intro hc (grown_trans HG1.out hg))
    clear hc hg
    go_wp2_with fail
    go_ret
    exact ⟨x, _, by omega, by omega, rfl, HX.out.1, HX.out.2⟩
set_option maxRecDepth 20000 in
set_option maxHeartbeats 3200000 in
theorem depth5_any (B : Nat) (A : Option Addr) (n c g k : Nat) (w : World) (h : Cur B A n c g k w) (hk : k < 900000) :
    Calls Try.prog 89 #[.pointer (some ⟨g, 0, none⟩)] w (IdPost B A n c g k w) := by
  have hgl := h.lt
  have HC0 := Lib.hid (h.alloc (.cells ([-1000, 9, 80, 130, 150, 20000, -1001, 20001].map (Value.int .i64)).toArray 3))
  have HH0 := Lib.hid (has_ints w [-1000, 9, 80, 130, 150, 20000, -1001, 20001])
  have HG0 : Hid (w.grownBy (w.alloc (.cells ([-1000, 9, 80, 130, 150, 20000, -1001, 20001].map (Value.int .i64)).toArray 3)) (some g)) := Lib.hid (World.grownBy_alloc _ _ _)
  clear h
  go_enter Try.func89, Try.ntmps89
  go_wp2_with fail
  refine (pick_any _ _ _ _ _ _ 24 _ HC0.out (by omega) (by decide) (by decide)).mono ?_
  rintro e w1 ⟨q, hq, rfl, hc, hg⟩
  have HC1 := Lib.hid hc
  have HG1 := Lib.hid (grown_trans HG0.out hg)
  have HH1 := Lib.hid (has_grown HH0.out hg (fun e => by have := Option.some.inj e; omega))
  clear hc hg HC0 HG0 HH0
  obtain ⟨r, hr, hr1, hr2⟩ : ∃ r : Nat, (6 : Int) + (q : Int) / 11 = r ∧ 6 ≤ r ∧ r ≤ 8 := ⟨6 + q / 11, by omega, by omega, by omega⟩
  go_wp2_with fail
  refine (among_pre _ _ _ _ _ _ _ _ r [-1000, 9, 80, 130, 150, 20000, -1001, 20001] _ HC1.out (by omega) (by omega) (by simp; omega) (by decide) HH1.out (by omega)).mono ?_
  rintro e w2 ⟨x, _, rfl, hc, hg⟩
  have HX := Lib.hid (And.intro hc (grown_trans HG1.out hg))
  clear hc hg
  go_wp2_with fail
  go_ret
  exact ⟨x, _, by omega, by omega, rfl, HX.out.1, HX.out.2⟩
/-! ### The draws of the laws -/
def DrawnC (w : World) (L : List CC) (gb cap : Nat) (w' : World) : Prop :=
  L.length ≤ 7 ∧ Names L ∧ w.heap.size ≤ gb ∧ RW w.heap.size L (.slice (some ⟨gb, 0, none⟩) L.length cap) w' ∧ Below w.heap.size w w'
theorem drawnC_of {A : Option Addr} {n c k gb cap : Nat} {w W : World} {L : List CC} {o : Obj} (hl : L.length ≤ 7) (hN : Names L) (hgb : (w.alloc o).heap.size ≤ gb) (hR : RW (w.alloc o).heap.size L (.slice (some ⟨gb, 0, none⟩) L.length cap) W)
    (_hC : Cur w.heap.size A n c w.heap.size k W) (hg : (w.alloc o).grownBy W (some w.heap.size)) : DrawnC w L gb cap W :=
  ⟨hl, hN, by simp at hgb; omega, hR.low (by simp), below_of ((Below.refl w.heap.size w).alloc (Nat.le_refl _) o) hg (by simp) (Nat.le_refl _)⟩
def DrawC0 (w : World) (e : Ending) (w' : World) : Prop := ∃ (L : List CC) (gb cap : Nat), e = .returned (.slice (some ⟨gb, 0, none⟩) L.length cap) ∧ DrawnC w L gb cap w'
def DrawC2 (w : World) (e : Ending) (w' : World) : Prop := ∃ (L : List CC) (gb cap : Nat) (x y : Int), e = .returned (.tuple #[.slice (some ⟨gb, 0, none⟩) L.length cap, .int .i64 x, .int .i64 y]) ∧ DrawnC w L gb cap w'
set_option maxRecDepth 20000 in
set_option maxHeartbeats 3200000 in
theorem draw_are (A : Option Addr) (n c : Nat) (w : World) (h : CodeRow w.heap.size A n w) : Calls Try.prog 98 #[.slice A n c] w (DrawC0 w) := by
  have HC0 := Lib.hid (cur_new w A n c 93 h)
  clear h
  go_enter Try.func98, Try.ntmps98
  go_wp2_with fail
  refine (fleet_any _ _ _ _ _ _ _ HC0.out (by omega)).mono ?_
  rintro e w1 ⟨L, gb, cap, k1, hl, hN, hk1, hk2, hgb, rfl, hR, hC, hg⟩
  have HD := Lib.hid (drawnC_of hl hN hgb hR hC hg)
  clear hR hC hg hN
  go_wp2_with fail
  go_ret
  exact ⟨L, gb, cap, rfl, HD.out⟩
theorem draw_shallow (A : Option Addr) (n c : Nat) (w : World) (h : CodeRow w.heap.size A n w) : Calls Try.prog 29 #[.slice A n c] w (DrawC0 w) := by
  have H := Lib.hid (draw_are A n c w h)
  clear h
  go_enter Try.func29, Try.ntmps29
  go_wp2_with fail
  refine H.out.mono ?_
  rintro e w1 ⟨L, gb, cap, rfl, hd⟩
  have HD := Lib.hid hd
  clear hd
  go_wp2_with fail
  go_ret
  exact ⟨L, gb, cap, rfl, HD.out⟩
set_option maxRecDepth 20000 in
set_option maxHeartbeats 3200000 in
theorem draw_use (A : Option Addr) (n c : Nat) (w : World) (h : CodeRow w.heap.size A n w) : Calls Try.prog 16 #[.slice A n c] w (DrawC2 w) := by
  have HC0 := Lib.hid (cur_new w A n c 93 h)
  clear h
  go_enter Try.func16, Try.ntmps16
  go_wp2_with fail
  refine (fleet_any _ _ _ _ _ _ _ HC0.out (by omega)).mono ?_
  rintro e w1 ⟨L, gb, cap, k1, hl, hN, hk1, hk2, hgb, rfl, hR, hC, hg⟩
  have HR1 := Lib.hid hR
  have HC1 := Lib.hid hC
  have HG1 := Lib.hid hg
  have HN := Lib.hid hN
  have hz : w.heap.size < (w.alloc (.cells #[.slice A n c, .int .i64 0, .int .u64 0] 93)).heap.size := by simp
  clear hR hC hg hN HC0
  go_wp2_with fail
  refine (craftId_any _ _ _ _ _ _ _ _ _ L _ HC1.out (by omega) hl HR1.out hz).mono ?_
  rintro e w2 ⟨x, k2, hk3, hk4, rfl, hc, hg⟩
  have HC2 := Lib.hid hc
  have HG2 := Lib.hid (grown_trans HG1.out hg)
  have HR2 := Lib.hid (HR1.out.draw hg hz)
  clear hc hg HC1 HG1 HR1
  have hgl2 := HC2.out.lt
  have HCA := Lib.hid (HC2.out.alloc (.cells ([0, 1, 59, 10000, -1, 10001].map (Value.int .i64)).toArray 3))
  have HHA := Lib.hid (has_ints w2 [0, 1, 59, 10000, -1, 10001])
  go_wp2_with fail
  refine (pick_any _ _ _ _ _ _ 24 _ HCA.out (by omega) (by decide) (by decide)).mono ?_
  rintro e w3 ⟨q, hq, rfl, hc, hg⟩
  have HC3 := Lib.hid hc
  have HG3 := Lib.hid (grown_trans (grown_trans HG2.out (World.grownBy_alloc w2 (.cells ([0, 1, 59, 10000, -1, 10001].map (Value.int .i64)).toArray 3) _)) hg)
  have HR3 := Lib.hid ((HR2.out.alloc (.cells ([0, 1, 59, 10000, -1, 10001].map (Value.int .i64)).toArray 3)).draw hg hz)
  have HH3 := Lib.hid (has_grown HHA.out hg (fun e => by have := Option.some.inj e; omega))
  clear hc hg HC2 HG2 HR2 HCA HHA
  obtain ⟨r, hr, hr1, hr2⟩ : ∃ r : Nat, (4 : Int) + (q : Int) / 11 = r ∧ 4 ≤ r ∧ r ≤ 6 := ⟨4 + q / 11, by omega, by omega, by omega⟩
  go_wp2_with fail
  refine (among_pre _ _ _ _ _ _ _ _ r [0, 1, 59, 10000, -1, 10001] _ HC3.out (by omega) (by omega) (by simp; omega) (by decide) HH3.out (by omega)).mono ?_
  rintro e w4 ⟨y, _, rfl, hc, hg⟩
  have HD := Lib.hid (drawnC_of hl HN.out hgb (HR3.out.draw hg hz) hc (grown_trans HG3.out hg))
  clear hc hg HC3 HG3 HR3 HH3
  go_wp2_with fail
  go_ret3
  exact ⟨L, gb, cap, x, y, rfl, HD.out⟩
set_option maxRecDepth 20000 in
set_option maxHeartbeats 3200000 in
theorem draw_for (A : Option Addr) (n c : Nat) (w : World) (h : CodeRow w.heap.size A n w) : Calls Try.prog 20 #[.slice A n c] w (DrawC2 w) := by
  have HC0 := Lib.hid (cur_new w A n c 93 h)
  clear h
  go_enter Try.func20, Try.ntmps20
  go_wp2_with fail
  refine (fleet_any _ _ _ _ _ _ _ HC0.out (by omega)).mono ?_
  rintro e w2 ⟨L, gb, cap, k1, hl, hN, hk1, hk2, hgb, rfl, hR, hC, hg⟩
  have HR2 := Lib.hid hR
  have HC2 := Lib.hid hC
  have HG2 := Lib.hid hg
  have HN := Lib.hid hN
  have hz : w.heap.size < (w.alloc (.cells #[.slice A n c, .int .i64 0, .int .u64 0] 93)).heap.size := by simp
  clear hR hC hg hN HC0
  have hgl2 := HC2.out.lt
  have HCA := Lib.hid (HC2.out.alloc (.cells ([0, 100, 5000, 100000, -1, 100001].map (Value.int .i64)).toArray 3))
  have HHA := Lib.hid (has_ints w2 [0, 100, 5000, 100000, -1, 100001])
  go_wp2_with fail
  refine (pick_any _ _ _ _ _ _ 24 _ HCA.out (by omega) (by decide) (by decide)).mono ?_
  rintro e w3 ⟨q, hq, rfl, hc, hg⟩
  have HC3 := Lib.hid hc
  have HG3 := Lib.hid (grown_trans (grown_trans HG2.out (World.grownBy_alloc w2 (.cells ([0, 100, 5000, 100000, -1, 100001].map (Value.int .i64)).toArray 3) _)) hg)
  have HR3 := Lib.hid ((HR2.out.alloc (.cells ([0, 100, 5000, 100000, -1, 100001].map (Value.int .i64)).toArray 3)).draw hg hz)
  have HH3 := Lib.hid (has_grown HHA.out hg (fun e => by have := Option.some.inj e; omega))
  clear hc hg HC2 HG2 HR2 HCA HHA
  obtain ⟨r, hr, hr1, hr2⟩ : ∃ r : Nat, (4 : Int) + (q : Int) / 11 = r ∧ 4 ≤ r ∧ r ≤ 6 := ⟨4 + q / 11, by omega, by omega, by omega⟩
  go_wp2_with fail
  refine (among_pre _ _ _ _ _ _ _ _ r [0, 100, 5000, 100000, -1, 100001] _ HC3.out (by omega) (by omega) (by simp; omega) (by decide) HH3.out (by omega)).mono ?_
  rintro e w4 ⟨x, _, rfl, hc, hg⟩
  have HC4 := Lib.hid hc
  have HG4 := Lib.hid (grown_trans HG3.out hg)
  have HR4 := Lib.hid (HR3.out.draw hg hz)
  clear hc hg HC3 HG3 HR3 HH3
  go_wp2_with fail
  refine (depth5_any _ _ _ _ _ _ _ HC4.out (by omega)).mono ?_
  rintro e w5 ⟨y, k5, hk5, hk6, rfl, hc, hg⟩
  have HD := Lib.hid (drawnC_of hl HN.out hgb (HR4.out.draw hg hz) hc (grown_trans HG4.out hg))
  clear hc hg HC4 HG4 HR4
  go_wp2_with fail
  go_ret3
  exact ⟨L, gb, cap, x, y, rfl, HD.out⟩
set_option maxRecDepth 20000 in
set_option maxHeartbeats 3200000 in
theorem draw_floats (A : Option Addr) (n c : Nat) (w : World) (h : CodeRow w.heap.size A n w) : Calls Try.prog 26 #[.slice A n c] w (DrawC2 w) := by
  have HC0 := Lib.hid (cur_new w A n c 93 h)
  clear h
  go_enter Try.func26, Try.ntmps26
  go_wp2_with fail
  refine (fleet_any _ _ _ _ _ _ _ HC0.out (by omega)).mono ?_
  rintro e w1 ⟨L, gb, cap, k1, hl, hN, hk1, hk2, hgb, rfl, hR, hC, hg⟩
  have HR1 := Lib.hid hR
  have HC1 := Lib.hid hC
  have HG1 := Lib.hid hg
  have HN := Lib.hid hN
  have hz : w.heap.size < (w.alloc (.cells #[.slice A n c, .int .i64 0, .int .u64 0] 93)).heap.size := by simp
  clear hR hC hg hN HC0
  go_wp2_with fail
  refine (depth5_any _ _ _ _ _ _ _ HC1.out (by omega)).mono ?_
  rintro e w2 ⟨x, k2, hk3, hk4, rfl, hc, hg⟩
  have HC2 := Lib.hid hc
  have HG2 := Lib.hid (grown_trans HG1.out hg)
  have HR2 := Lib.hid (HR1.out.draw hg hz)
  clear hc hg HC1 HG1 HR1
  have hgl2 := HC2.out.lt
  have HCA := Lib.hid (HC2.out.alloc (.cells ([0, 50, 500, -1, 501].map (Value.int .i64)).toArray 3))
  have HHA := Lib.hid (has_ints w2 [0, 50, 500, -1, 501])
  go_wp2_with fail
  refine (pick_any _ _ _ _ _ _ 24 _ HCA.out (by omega) (by decide) (by decide)).mono ?_
  rintro e w3 ⟨q, hq, rfl, hc, hg⟩
  have HC3 := Lib.hid hc
  have HG3 := Lib.hid (grown_trans (grown_trans HG2.out (World.grownBy_alloc w2 (.cells ([0, 50, 500, -1, 501].map (Value.int .i64)).toArray 3) _)) hg)
  have HR3 := Lib.hid ((HR2.out.alloc (.cells ([0, 50, 500, -1, 501].map (Value.int .i64)).toArray 3)).draw hg hz)
  have HH3 := Lib.hid (has_grown HHA.out hg (fun e => by have := Option.some.inj e; omega))
  clear hc hg HC2 HG2 HR2 HCA HHA
  obtain ⟨r, hr, hr1, hr2⟩ : ∃ r : Nat, (3 : Int) + (q : Int) / 11 = r ∧ 3 ≤ r ∧ r ≤ 5 := ⟨3 + q / 11, by omega, by omega, by omega⟩
  go_wp2_with fail
  refine (among_pre _ _ _ _ _ _ _ _ r [0, 50, 500, -1, 501] _ HC3.out (by omega) (by omega) (by simp; omega) (by decide) HH3.out (by omega)).mono ?_
  rintro e w4 ⟨y, _, rfl, hc, hg⟩
  have HD := Lib.hid (drawnC_of hl HN.out hgb (HR3.out.draw hg hz) hc (grown_trans HG3.out hg))
  clear hc hg HC3 HG3 HR3 HH3
  go_wp2_with fail
  go_ret3
  exact ⟨L, gb, cap, x, y, rfl, HD.out⟩
end Go.Proofs.Ytfffahkommbheaa
