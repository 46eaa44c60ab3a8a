/-
  Marks of craft: rows of craft of the call's own; contracts of laws.markCraftS, heldCraftS over this translation. Conditions: stated at each theorem.
-/
import Derived.Test.YtfffahkommbheaaVl
import Derived.Test.YtfffahkommbheaaFb
import Derived.Test.YtfffahkommbheaaMt
namespace Go.Proofs.Ytfffahkommbheaa
open Go.RowKit

/-- The slice value with address A and n elements holds the craft L; its block lies from lo on and below hi, and may be written. -/
def OwnC (w : World) (lo hi : Nat) (A : Option Addr) (n : Nat) (L : List CC) : Prop :=
  L.length = n ∧ (n = 0 ∨ ∃ g, A = some ⟨g, 0, none⟩ ∧ g < hi ∧ FillC w lo g n n L)
theorem OwnC.on {w w' : World} {lo hi B n : Nat} {A : Option Addr} {L : List CC} (h : OwnC w lo hi A n L) (hb : Below B w w') (hB : hi ≤ B) : OwnC w' lo hi A n L :=
  ⟨h.1, h.2.imp id fun ⟨g, hA, hg, hF⟩ => ⟨g, hA, hg, hF.on hb (Nat.lt_of_lt_of_le hg hB) hb.size⟩⟩
theorem OwnC.wide {w : World} {lo hi lo' hi' n : Nat} {A : Option Addr} {L : List CC} (h : OwnC w lo hi A n L) (h1 : lo' ≤ lo) (h2 : hi ≤ hi') : OwnC w lo' hi' A n L :=
  ⟨h.1, h.2.imp id fun ⟨g, hA, hg, hF⟩ => ⟨g, hA, Nat.lt_of_lt_of_le hg h2, hF.wide h1⟩⟩
theorem fillC_far {w w' : World} {lo' hi' B g n k : Nat} {L : List CC} (h : FillC w B g n k L) (hf : FarB lo' hi' w w') (hd : g < lo' ∨ hi' ≤ g) : FillC w' B g n k L := by
  have hb := hf.block g h.lt hd
  have hc : ∀ j, w'.cell? ⟨g, j, none⟩ = w.cell? ⟨g, j, none⟩ := fun j => World.cell?_of_block (a := ⟨g, j, none⟩) hb
  exact ⟨h.low, Nat.lt_of_lt_of_le h.lt hf.size, fun j => (World.frozen?_of_block (a := ⟨g, j, none⟩) hb).trans (h.free j), fun j hj => by
    obtain ⟨u, hu⟩ := h.cells j hj
    exact ⟨u, (hc j).trans hu⟩, fun j hj => by
    obtain ⟨v, hv, h7⟩ := h.done j hj
    exact ⟨v, hv, at7_other h7 fun q _ _ => hc q⟩⟩
theorem OwnC.farB {w w' : World} {lo hi lo' hi' n : Nat} {A : Option Addr} {L : List CC} (h : OwnC w lo hi A n L) (hf : FarB lo' hi' w w') (hd : hi ≤ lo' ∨ hi' ≤ lo) : OwnC w' lo hi A n L :=
  ⟨h.1, h.2.imp id fun ⟨g, hA, hg, hF⟩ => ⟨g, hA, hg, fillC_far hF hf (by have := hF.low; omega)⟩⟩
theorem OwnC.crafts {w : World} {lo hi n : Nat} {A : Option Addr} {L : List CC} (h : OwnC w lo hi A n L) (hz : ∀ v ∈ L, v.nm.size ≤ maxLen) : Crafts w w.heap.size A n L := by
  obtain ⟨hl, rfl | ⟨g, rfl, hg, hF⟩⟩ := h
  · exact ⟨hl, fun k hk => absurd hk (by omega)⟩
  · exact crafts_of_fill hF hl hz
theorem own_of_fill {w : World} {B g n : Nat} {L : List CC} (h : FillC w B g n n L) (hn : L.length = n) : OwnC w B w.heap.size (some ⟨g, 0, none⟩) n L := ⟨hn, .inr ⟨g, rfl, h.lt, h⟩⟩

theorem setL_farB (vs : List Value) : ∀ {lo hi : Nat} {a w : World} (_ : FarB lo hi a w) {g : Nat} (_ : lo ≤ g) (_ : g < hi) (o : Nat), FarB lo hi a (setL w g o vs) := by
  induction vs with
  | nil => intro lo hi a w h g h1 h2 o; exact h
  | cons v vs ih => intro lo hi a w h g h1 h2 o; exact ih (h.setCell (p := ⟨g, o, none⟩) h1 h2 v) h1 h2 (o + 1)
/-- What marking from m on leaves of one craft. -/
def markC (m : Nat) : CC := ⟨m, mtf (m + 1), (m : Int) + 1 + 1, (m : Int) + 1 + 1 + 1, (m : Int) + 1 + 1 + 1 + 1, (m : Int) + 1 + 1 + 1 + 1 + 1, (m : Int) + 1 + 1 + 1 + 1 + 1 + 1⟩
def marksC (n : Nat) : List CC := (List.range n).map fun j => markC (7 * j + 1)
theorem marksC_len (n : Nat) : (marksC n).length = n := by simp [marksC]
theorem marksC_at (n k : Nat) (h : k < n) : (marksC n)[k]? = some (markC (7 * k + 1)) := by simp [marksC, h]
set_option maxRecDepth 100000 in
set_option maxHeartbeats 3200000 in
theorem markF_any (g n c B : Nat) (L : List CC) (w : World) (h : FillC w B g n n L) (hm : n ≤ 1048576) :
    Calls Try.prog 46 #[.slice (some ⟨g, 0, none⟩) n c, .int .i64 1] w fun e w' => e = .returned (.int .i64 ((7 * n + 1 : Nat) : Int)) ∧ FillC w' B g n n (marksC n) ∧ FarB g (g + 1) w w' := by
  have H := Lib.hid (h.bare (marksC n))
  clear h
  go_enter Try.func46, Try.ntmps46
  go_wp2_with fail
  go_loopw [1, 5] (fun q i wr => ∃ k m : Nat, k ≤ n ∧ i = .int .i64 k ∧ q = .int .i64 m ∧ m = 7 * k + 1 ∧ Hid (FillC wr B g n k (marksC n)) ∧ Hid (FarB g (g + 1) w wr)) (fun _ i _ => n - (intOf i).toNat)
  case atStart => exact ⟨0, 1, Nat.zero_le _, rfl, rfl, rfl, H, Lib.hid (FarB.refl _ _ _)⟩
  case round =>
    obtain ⟨k, m, hk, rfl, rfl, hmk, hF, hR⟩ := hrel
    have hmb : m ≤ 7340033 := by omega
    have HMK := Lib.hid hmk
    clear hmk
    obtain ⟨W0, rfl⟩ : ∃ W : World, W = wr := ⟨_, rfl⟩
    by_cases hlt : k < n
    · have HK : Hid ((marksC n)[k]? = some (markC m)) := by unfold Hid; rw [HMK.out]; exact marksC_at n k hlt
      obtain ⟨v0, h0⟩ := hF.out.cells (k * 7) (by omega)
      have f0 := hF.out.free (k * 7)
      have HF1 := Lib.hid (hF.out.put (k * 7) (Nat.le_refl _) (.int .i64 m))
      have HR1 := Lib.hid (hR.out.setCell (p := ⟨g, k * 7, none⟩) (Nat.le_refl _) (Nat.lt_succ_self _) (.int .i64 m))
      have HC0 := Lib.hid (World.cell?_setCell_same W0 ⟨g, k * 7, none⟩ (.int .i64 m) h0)
      have h13 : m + 1 < 10 ^ 13 := by omega
      have H13 := Lib.hid h13
      clear h13
      obtain ⟨s, hs⟩ : ∃ s, s = mtf (m + 1) := ⟨_, rfl⟩
      have HS := Lib.hid hs
      clear hs
      have HX : Hid ((m : Int) + 1 = ((m + 1 : Nat) : Int)) := by unfold Hid; omega
      go_wp2_with fail
      refine (markText_h _ (m + 1) s HX.out HS.out _ H13).mono ?_
      rintro e w2 ⟨rfl, hb⟩
      have HF2 := Lib.hid (HF1.out.next hb)
      have HR2 := Lib.hid (HR1.out.next hb)
      have HC2 := Lib.hid (cell_next hb HC0.out)
      clear hb h0 f0
      obtain ⟨v1, h1⟩ := HF2.out.cells (k * 7 + 1) (by omega)
      obtain ⟨v2, h2⟩ := HF2.out.cells (k * 7 + 2) (by omega)
      obtain ⟨v3, h3⟩ := HF2.out.cells (k * 7 + 3) (by omega)
      obtain ⟨v4, h4⟩ := HF2.out.cells (k * 7 + 4) (by omega)
      obtain ⟨v5, h5⟩ := HF2.out.cells (k * 7 + 5) (by omega)
      obtain ⟨v6, h6⟩ := HF2.out.cells (k * 7 + 6) (by omega)
      have f1 := HF2.out.free (k * 7 + 1)
      have f2 := HF2.out.free (k * 7 + 2)
      have f3 := HF2.out.free (k * 7 + 3)
      have f4 := HF2.out.free (k * 7 + 4)
      have f5 := HF2.out.free (k * 7 + 5)
      have f6 := HF2.out.free (k * 7 + 6)
      obtain ⟨vs, hvs⟩ : ∃ vs : List Value, vs = [.string s, .int .i64 ((m : Int) + 1 + 1), .int .i64 ((m : Int) + 1 + 1 + 1), .int .i64 ((m : Int) + 1 + 1 + 1 + 1), .int .i64 ((m : Int) + 1 + 1 + 1 + 1 + 1), .int .i64 ((m : Int) + 1 + 1 + 1 + 1 + 1 + 1)] := ⟨_, rfl⟩
      have hvl : vs.length = 6 := by rw [hvs]; rfl
      have hat := setL_at vs w2 g (k * 7 + 1) (fun i hi => HF2.out.cells _ (by omega))
      have ho := setL_other vs w2 g (k * 7 + 1) g (k * 7) (by omega)
      have HF3 : Hid (FillC (setL w2 g (k * 7 + 1) vs) B g n (k + 1) (marksC n)) := Lib.hid ((HF2.out.puts vs (k * 7 + 1) (by omega)).more HK.out ⟨ho.trans HC2.out, hat 0 _ (by rw [hvs, HS.out]; rfl), hat 1 _ (by rw [hvs]; rfl), hat 2 _ (by rw [hvs]; rfl), hat 3 _ (by rw [hvs]; rfl), hat 4 _ (by rw [hvs]; rfl), hat 5 _ (by rw [hvs]; rfl)⟩)
      have HR3 := Lib.hid (setL_farB vs HR2.out (Nat.le_refl g) (Nat.lt_succ_self g) (k * 7 + 1))
      rw [hvs] at HF3 HR3
      clear hat ho hvl hvs vs
      go_wp2_with fail
      go_roundw
      case rel => exact ⟨k + 1, m + 7, by omega, by go_num, by first | rfl | go_num, by have := HMK.out; omega, HF3, HR3⟩
      case measure => simp [intOf]; omega
    · obtain rfl : k = n := by omega
      have HR : Hid ((m : Int) = ((7 * k + 1 : Nat) : Int)) := by unfold Hid; have := HMK.out; omega
      go_wp2_with fail
      go_ret
      exact ⟨ret_int HR.out, hF.out, hR.out⟩
theorem mark0_any (A : Option Addr) (c : Nat) (w : World) :
    Calls Try.prog 46 #[.slice A 0 c, .int .i64 1] w fun e w' => e = .returned (.int .i64 1) ∧ w = w' := by
  go_enter Try.func46, Try.ntmps46
  go_wp2_with fail
  go_loop [1, 5] (fun q i => q = .int .i64 1 ∧ i = .int .i64 0) (fun _ i => 1 - (intOf i).toNat)
  case atStart => exact ⟨rfl, rfl⟩
  case round =>
    obtain ⟨rfl, rfl⟩ := hrel
    go_wp2_with fail
    go_ret
    exact ⟨rfl, rfl⟩
theorem markO_any (A : Option Addr) (n c lo hi : Nat) (L : List CC) (w : World) (h : OwnC w lo hi A n L) (hm : n ≤ 1048576) :
    Calls Try.prog 46 #[.slice A n c, .int .i64 1] w fun e w' => e = .returned (.int .i64 ((7 * n + 1 : Nat) : Int)) ∧ OwnC w' lo hi A n (marksC n) ∧ FarB lo hi w w' := by
  obtain ⟨hl, rfl | ⟨g, rfl, hg, hF⟩⟩ := h
  · refine (mark0_any A c w).mono ?_
    rintro e w' ⟨rfl, rfl⟩
    exact ⟨rfl, ⟨marksC_len 0, .inl rfl⟩, FarB.refl _ _ _⟩
  · refine (markF_any g n c lo L w hF hm).mono ?_
    rintro e w' ⟨rfl, hF', hR⟩
    exact ⟨rfl, ⟨marksC_len n, .inr ⟨g, rfl, hg, hF'⟩⟩, ⟨hR.os, hR.tape, hR.output, hR.size, fun k hk ho => hR.block k hk (by have := hF.low; omega)⟩⟩
theorem markO_pos (A : Option Addr) (n c lo hi : Nat) (L : List CC) (w : World) (h : OwnC w lo hi A n L) (hm : n ≤ 1048576) :
    Calls Try.prog 46 #[.slice A n c, .int .i64 1] w fun e w' => (∃ m : Int, e = .returned (.int .i64 m) ∧ 0 ≤ m) ∧ FarB lo hi w w' :=
  (markO_any A n c lo hi L w h hm).mono fun _ _ h => ⟨⟨_, h.1, by omega⟩, h.2.2⟩
set_option maxRecDepth 100000 in
set_option maxHeartbeats 3200000 in
theorem heldF_any (g n c B : Nat) (w : World) (h : FillC w B g n n (marksC n)) (hm : n ≤ 1048576) :
    Calls Try.prog 47 #[.slice (some ⟨g, 0, none⟩) n c, .int .i64 1] w fun e w' => e = .returned (.int .i64 ((7 * n + 1 : Nat) : Int)) ∧ Below w.heap.size w w' := by
  have H := Lib.hid h
  clear h
  go_enter Try.func47, Try.ntmps47
  go_wp2_with fail
  go_loopw [1, 5] (fun q i wr => ∃ k m : Nat, k ≤ n ∧ i = .int .i64 k ∧ q = .int .i64 m ∧ m = 7 * k + 1 ∧ Hid (Below w.heap.size w wr)) (fun _ i _ => n - (intOf i).toNat)
  case atStart => exact ⟨0, 1, Nat.zero_le _, rfl, rfl, rfl, Lib.hid (Below.refl _ _)⟩
  case round =>
    obtain ⟨k, m, hk, rfl, rfl, hmk, hB⟩ := hrel
    have hmb : m ≤ 7340033 := by omega
    have HMK := Lib.hid hmk
    clear hmk
    obtain ⟨W0, rfl⟩ : ∃ W : World, W = wr := ⟨_, rfl⟩
    by_cases hlt : k < n
    · obtain ⟨v, hv, h7⟩ := (H.out.on hB.out H.out.lt hB.out.size).done k hlt
      obtain rfl : v = markC m := by rw [marksC_at n k hlt] at hv; rw [HMK.out]; exact (Option.some.inj hv).symm
      obtain ⟨c0, c1, c2, c3, c4, c5, c6⟩ := h7
      dsimp only [markC] at c0 c1 c2 c3 c4 c5 c6
      have h13 : m + 1 < 10 ^ 13 := by omega
      have H13 := Lib.hid h13
      clear h13 hv
      obtain ⟨s, hs⟩ : ∃ s, s = mtf (m + 1) := ⟨_, rfl⟩
      have HS := Lib.hid hs
      rw [← hs] at c1
      clear hs
      have HX : Hid ((m : Int) + 1 = ((m + 1 : Nat) : Int)) := by unfold Hid; omega
      go_wp2_with fail
      have lc0 := lcell (c1)
      refine region_later (W := W0) (by kernel_rfl) (by kernel_rfl) (Below.refl _ _) ?_
      repeat (go_big_quiet_step (((go_at_call 108; exact later_call (markText_h _ (m + 1) s HX.out HS.out _ H13)))))
      refine wpQuiet_nil ?_
      intro W1 hW1
      have HL : Hid (Below W0.heap.size W0 W1) := by obtain ⟨x, rfl⟩ := hW1; exact Lib.hid x.below
      clear hW1 lc0
      have HT := Lib.hid (bthen hB.out HL.out hB.out.size)
      have c2' := cell_next HL.out c2
      have c3' := cell_next HL.out c3
      have c4' := cell_next HL.out c4
      have c5' := cell_next HL.out c5
      have c6' := cell_next HL.out c6
      clear c0 c1 c2 c3 c4 c5 c6
      go_wp2_with fail
      go_roundw
      case rel => exact ⟨k + 1, m + 7, by omega, by go_num, by first | rfl | go_num, by have := HMK.out; omega, HT⟩
      case measure => simp [intOf]; omega
    · obtain rfl : k = n := by omega
      have HR : Hid ((m : Int) = ((7 * k + 1 : Nat) : Int)) := by unfold Hid; have := HMK.out; omega
      go_wp2_with fail
      go_ret
      exact ⟨ret_int HR.out, hB.out⟩
theorem held0_any (A : Option Addr) (c : Nat) (w : World) :
    Calls Try.prog 47 #[.slice A 0 c, .int .i64 1] w fun e w' => e = .returned (.int .i64 1) ∧ w = w' := by
  go_enter Try.func47, Try.ntmps47
  go_wp2_with fail
  go_loop [1, 5] (fun q i => q = .int .i64 1 ∧ i = .int .i64 0) (fun _ i => 1 - (intOf i).toNat)
  case atStart => exact ⟨rfl, rfl⟩
  case round =>
    obtain ⟨rfl, rfl⟩ := hrel
    go_wp2_with fail
    go_ret
    exact ⟨rfl, rfl⟩
theorem heldO_any (A : Option Addr) (n c lo hi : Nat) (w : World) (h : OwnC w lo hi A n (marksC n)) (hm : n ≤ 1048576) :
    Calls Try.prog 47 #[.slice A n c, .int .i64 1] w fun e w' => e = .returned (.int .i64 ((7 * n + 1 : Nat) : Int)) ∧ Below w.heap.size w w' := by
  obtain ⟨hl, rfl | ⟨g, rfl, hg, hF⟩⟩ := h
  · refine (held0_any A c w).mono ?_
    rintro e w' ⟨rfl, rfl⟩
    exact ⟨rfl, Below.refl _ _⟩
  · exact heldF_any g n c lo w hF hm
end Go.Proofs.Ytfffahkommbheaa
