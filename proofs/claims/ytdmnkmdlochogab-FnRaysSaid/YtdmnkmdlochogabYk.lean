/-
  Divided layers: contracts of impl.water.dividedAt, impl.water.layers over this translation. Conditions: stated at each theorem.
-/
import Derived.Test.YtdmnkmdlochogabYw
import Derived.Test.YtdmnkmdlochogabTc
namespace Go.Proofs.Ytdmnkmdlochogab
open Go.RowKit
set_option linter.unusedVariables false

theorem alloc_hb1 {V W : World} (h : Below V.heap.size V W) (o : Obj) : Below V.heap.size V (W.alloc o) := h.alloc h.size o
/-- The length of a slice value. -/
def lenOfS : Value → Nat
  | .slice _ m _ => m
  | _ => 0
def DivPost (l : List (Int × Int)) (w : World) (e : Ending) (w' : World) : Prop := ∃ P, e = .returned (.pointer P) ∧ Chain w' l P ∧ Below w.heap.size w w'
set_option maxRecDepth 20000 in
set_option maxHeartbeats 3200000 in
theorem divided_any (l : List (Int × Int)) : ∀ (P : Option Addr) (d : Int) (w : World), Chain w l P → Good l → 0 ≤ d → d ≤ thk l → d ≤ 100000 →
    Calls Try.prog 116 #[.pointer P, .int .i64 d] w (DivPost (spl l d) w) := by
  induction l with
  | nil =>
    intro P d w hc hg h0 h1 h2
    simp only [thk] at h1
    obtain rfl : d = 0 := by omega
    have HC := Lib.hid hc
    clear hc
    go_enter Try.func116, Try.ntmps116
    go_wp2_with fail
    go_ret
    exact ⟨P, rfl, HC.out, Below.refl _ _⟩
  | cons p t ih =>
    intro P d w hc hg h0 h1 h2
    by_cases hd0 : d = 0
    · subst hd0
      have HC := Lib.hid hc
      clear hc
      go_enter Try.func116, Try.ntmps116
      go_wp2_with fail
      go_ret
      exact ⟨P, rfl, by rw [spl_zero _ (by omega)]; exact HC.out, Below.refl _ _⟩
    obtain ⟨x, y⟩ := p
    obtain ⟨g, Q, rfl, hlt, c0, c1, c2, hC⟩ := hc
    have hx := hg.head
    obtain ⟨hx, hy⟩ := hx
    simp only at hx hy c0 c1 c2
    simp only [thk] at h1
    have HC := Lib.hid hC
    have HG := Lib.hid hg.tail
    have HI := Lib.hid ih
    have hdb : (d == 0) = false := by simpa using hd0
    clear hC hg ih
    by_cases hdx : x ≤ d
    · have HS : Hid (spl ((x, y) :: t) d = (x, y) :: spl t (d - x)) := by unfold Hid; rw [spl, if_neg (by omega), if_pos hdx]
      have hge : decide (d ≥ x) = true := decide_eq_true hdx
      have hw : IntKind.i64.wrap (d - x) = d - x := IntWalk.i64_in _ (by omega)
      go_enter Try.func116, Try.ntmps116
      go_wp2_with fail
      have lc0 := lcell c0
      have lc1 := lcell c1
      have lc2 := lcell c2
      refine region_perm (W := w) 16 [0, 1, 2, 3, 4, 5, 6, 7, 8, 9, 10, 11, 12, 13, 14] [15] (by kernel_rfl) (by kernel_rfl) (Below.refl _ _) (fun d _ _ _ _ h => by cases d <;> exact h) ?_
      simp only [picks, List.getElem?_cons_succ, List.getElem?_cons_zero, List.drop_succ_cons, List.drop_zero]
      repeat (go_big_quiet_step (fail))
      refine wpQuiet_nil ?_
      intro W3 hW1
      have HL : Hid (Below w.heap.size w W3) := by obtain ⟨x, rfl⟩ := hW1; exact Lib.hid x.below
      clear hW1 lc0 lc1 lc2 c0 c1 c2
      simp only [wpMem]
      refine wpOp_step rfl (fun K hK => ?_)
      rw [if_pos (by rfl)]
      go_simp
      refine (HI.out _ _ _ (HC.out.next HL.out) HG.out (by omega) (by omega) (by omega)).mono ?_
      rintro e w4 ⟨P', rfl, hC', hb⟩
      have HB4 := Lib.hid (bthen HL.out hb HL.out.size)
      refine hK _ _ ⟨⟨⟨_, HB4.out⟩, rfl⟩, ?_⟩
      have HC4 := Lib.hid hC'
      clear hK K hb hC' HI HC
      go_wp2_with fail
      go_ret
      have hx := (box1 (cs := #[.int .i64 x, .int .i64 y, .pointer P']) (T := 176) (Below.refl _ _) (w := w4))
      exact ⟨_, rfl, by rw [HS.out]; exact ⟨w4.heap.size, P', rfl, hx.2.1, hx.2.at_ 0 _ rfl, hx.2.at_ 1 _ rfl, hx.2.at_ 2 _ rfl, HC4.out.next hx.1⟩, bthen HB4.out hx.1 HB4.out.size⟩
    · have HS : Hid (spl ((x, y) :: t) d = (d, y) :: (x - d, y) :: t) := by unfold Hid; rw [spl, if_neg (by omega), if_neg hdx]
      have hge : decide (d ≥ x) = false := decide_eq_false (by omega)
      have hw : IntKind.i64.wrap (x - d) = x - d := IntWalk.i64_in _ (by omega)
      clear HI
      go_enter Try.func116, Try.ntmps116
      go_wp2_with fail
      have lc0 := lcell (c0)
      have lc1 := lcell (c1)
      have lc2 := lcell (c2)
      refine region_mid (W := w) 18 (by kernel_rfl) (by kernel_rfl) (Below.refl _ _) (fun d _ _ _ _ h => by cases d <;> exact h) ?_
      simp only [List.take_succ_cons, List.take_zero, List.drop_succ_cons, List.drop_zero]
      repeat (go_big_quiet_step (fail))
      refine wpQuiet_nil ?_
      intro W3 hW1
      have HL : Hid (Below w.heap.size w W3) := by obtain ⟨x, rfl⟩ := hW1; exact Lib.hid x.below
      clear hW1 lc0 lc1 lc2
      refine wpOp_step rfl (fun K hK => ?_)
      rw [if_pos (by rfl)]
      go_simp
      refine hK _ _ ⟨⟨⟨_, alloc_hb1 HL.out _⟩, rfl⟩, ?_⟩
      clear hK K
      obtain ⟨W4, hW4⟩ : ∃ W, W = W3.alloc (.cells #[.int .i64 (x - d), .int .i64 y, .pointer Q] 176) := ⟨_, rfl⟩
      have HX4 : Hid (Below W3.heap.size W3 W4 ∧ Has W4 W3.heap.size [.int .i64 (x - d), .int .i64 y, .pointer Q]) := by rw [hW4]; exact Lib.hid (box1 (Below.refl _ _))
      rw [← hW4]
      clear hW4
      have HB4 := Lib.hid (bthen HL.out HX4.out.1 HL.out.size)
      replace c0 := cell_next HB4.out c0
      replace c1 := cell_next HB4.out c1
      replace c2 := cell_next HB4.out c2
      go_wp2_with fail
      go_ret
      have HX6 := box1 (cs := #[.int .i64 d, .int .i64 y, .pointer (some ⟨W3.heap.size, 0, none⟩)]) (T := 176) (Below.refl _ _) (w := W4)
      have hb46 := HX6.1
      have hz4 := HX4.out.2.next hb46
      refine ⟨_, rfl, ?_, bthen HB4.out hb46 HB4.out.size⟩
      rw [HS.out]
      exact ⟨W4.heap.size, _, rfl, HX6.2.1, HX6.2.at_ 0 _ rfl, HX6.2.at_ 1 _ rfl, HX6.2.at_ 2 _ rfl, W3.heap.size, Q, rfl, hz4.1, hz4.at_ 0 _ rfl, hz4.at_ 1 _ rfl, hz4.at_ 2 _ rfl, HC.out.next (bthen HB4.out hb46 HB4.out.size)⟩
/-- A row of layers handed back. -/
def LayPost (L : List (Int × Int)) (w : World) (e : Ending) (w' : World) : Prop :=
  ∃ A c, e = .returned (.slice A L.length c) ∧ Own2 w' w.heap.size w'.heap.size A L.length L ∧ Below w.heap.size w w' ∧ L.length ≤ c ∧ c ≤ maxLen
theorem row_cap {W : World} {B n cap : Nat} {T : TypeId} {z : Nat} {R : Option Addr} {xs : List Value} (h : W.ownsRow B T z (.slice R n cap) n xs) : n ≤ cap ∧ cap ≤ maxLen := by
  rcases h.2 with ⟨h1, h2⟩ | ⟨g, cap', cur, hv, _, _, hc, hm, _⟩
  · obtain ⟨-, -, rfl⟩ := Value.slice.inj h1
    unfold maxLen; omega
  · obtain ⟨-, -, rfl⟩ := Value.slice.inj hv
    exact ⟨hc, hm⟩
theorem lay_of_col {w w' : World} {v : Value} {n : Nat} {L : List (Int × Int)} (h : Col w 125 2 v n (cells2 L) w') (hn : L.length = n) : LayPost L w (.returned v) w' := by
  obtain ⟨A, c, rfl⟩ := own_slice h.1
  subst hn
  exact ⟨A, c, rfl, own2_of_row h.1 rfl, h.2, row_cap h.1⟩
theorem take_snoc2 {l : List (Int × Int)} {k : Nat} {x y : Int} (h : l[k]? = some (x, y)) : l.take (k + 1) = l.take k ++ [(x, y)] := by
  obtain ⟨hk, he⟩ := List.getElem?_eq_some_iff.1 h
  rw [List.take_succ_eq_append_getElem hk, he]
theorem infoStr2 : (Try.prog.info? 125).map (fun i => (i.zero, i.size, i.bytes)) = some (some (.agg #[.int .i64 0, .int .i64 0]), 2, 16) := by kernel_rfl
set_option maxRecDepth 20000 in
set_option maxHeartbeats 3200000 in
theorem layers_any (l : List (Int × Int)) (P : Option Addr) (w : World) (hc : Chain w l P) (h6 : l.length ≤ 100) :
    Calls Try.prog 117 #[.pointer P] w (LayPost l w) := by
  obtain ⟨i0, hi, hz0, hz1, hz2⟩ := info_parts infoStr2
  have HI := Lib.hid (And.intro hi (And.intro hz0 (And.intro hz1 hz2)))
  clear hi hz0 hz1 hz2
  have HC := Lib.hid hc
  have HN0 : Hid (Col w 125 2 (.slice (some ⟨w.heap.size, 0, none⟩) 0 0) 0 (cells2 (l.take 0)) (w.alloc (.cells #[] 125))) := Lib.hid (col_start 125 2 (Below.refl _ _))
  clear hc
  go_enter Try.func117, Try.ntmps117
  go_wp2_with fail
  go_loopw [0, 3] (fun a s wr => ∃ (k : Nat) (P : Option Addr) (v : Value), k ≤ l.length ∧ a = .pointer P ∧ s = v ∧ Hid (Chain w (l.drop k) P) ∧ Hid (Col w 125 2 v k (cells2 (l.take k)) wr)) (fun _ s _ => l.length - lenOfS s)
  case atStart => exact ⟨0, P, _, Nat.zero_le _, rfl, rfl, HC, HN0⟩
  case round =>
    obtain ⟨k, P, v, hk, rfl, rfl, hC, hR⟩ := hrel
    obtain ⟨R, cap, rfl⟩ := own_slice hR.out.1
    by_cases hlt : k < l.length
    · obtain ⟨p, hp⟩ : ∃ p, l[k]? = some p := ⟨l[k], List.getElem?_eq_getElem hlt⟩
      obtain ⟨x, y⟩ := p
      have hc := hC.out
      rw [dp_down hp] at hc
      obtain ⟨g, Q, rfl, hg, c0, c1, c2, hC2⟩ := hc
      replace c0 := cell_next hR.out.2 c0
      replace c1 := cell_next hR.out.2 c1
      replace c2 := cell_next hR.out.2 c2
      simp only at c0 c1 c2
      have HC2 := Lib.hid hC2
      have HV := Lib.hid (take_snoc2 hp)
      have hgw := Nat.lt_of_lt_of_le hg hR.out.2.size
      clear hC2 hp hC
      go_wp2_with (at_builtin; go_loud (refine wpList_append_own _ rfl _ _ 45 rfl w.heap.size 125 i0 (.agg #[.int .i64 0, .int .i64 0]) 2 16 Try.underlying45 HI.out.1 HI.out.2.1 HI.out.2.2.1 HI.out.2.2.2 rfl (by decide) _ _ _ rfl (hR.out.1.alloc _) ⟨wr.heap.size, 0, none⟩ 1 1 [.int .i64 x, .int .i64 y] rfl rfl (two_new _ _ _ _) (by simp [Value.oneCell']) (by unfold maxLen; omega) (by omega) (by have := hR.out.2.size; simp; omega) ?_; intro v' w5 hown' hgrow _; have HN := Lib.hid (hR.out.step hown' hgrow); have c2' := (World.cell?_of_block (a := ⟨g, 2, none⟩) (hgrow.block g (by simp; omega) (fun e => by have q := (hR.out.1.lt g e.symm).1; omega))).trans (cell_next (box1 (Below.refl _ _) (w := wr)).1 c2); clear hown' hgrow))
      have hn3 := HN.out
      rw [← cells2_snoc, ← HV.out] at hn3
      have HN3 := Lib.hid hn3
      obtain ⟨R', cap', rfl⟩ := own_slice hn3.1
      clear hn3
      go_roundw
      case rel => exact ⟨k + 1, Q, _, by omega, rfl, rfl, HC2, HN3⟩
      case measure => simp [lenOfS]; omega
    · obtain rfl : k = l.length := by omega
      have hc := hC.out
      rw [List.drop_length] at hc
      obtain rfl : P = none := hc
      have hr := hR.out
      rw [List.take_length] at hr
      have HE := Lib.hid (lay_of_col hr rfl)
      clear hr
      go_wp2_with fail
      go_ret
      exact HE.out
end Go.Proofs.Ytdmnkmdlochogab
