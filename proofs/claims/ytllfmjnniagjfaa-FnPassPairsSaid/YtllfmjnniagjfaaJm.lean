/-
  Marks of lines: rows of lines of the call's own; contracts of laws.markPassS, heldPassS over this translation. Conditions: stated at each theorem.
-/
import Derived.Test.YtllfmjnniagjfaaJl
namespace Go.Proofs.Ytllfmjnniagjfaa
open Go.RowKit

/-- The slice value with address A and n elements holds the lines L; its block lies from lo on and below hi, and may be written. -/
def OwnSJ (w : World) (lo hi : Nat) (A : Option Addr) (n : Nat) (L : List PS) : Prop :=
  L.length = n ∧ (n = 0 ∨ ∃ g, A = some ⟨g, 0, none⟩ ∧ g < hi ∧ FillSJ w lo g n n L)
theorem OwnSJ.on {w w' : World} {lo hi B n : Nat} {A : Option Addr} {L : List PS} (h : OwnSJ w lo hi A n L) (hb : Below B w w') (hB : hi ≤ B) : OwnSJ w' lo hi A n L :=
  ⟨h.1, h.2.imp id fun ⟨g, hA, hg, hF⟩ => ⟨g, hA, hg, hF.on hb (Nat.lt_of_lt_of_le hg hB) hb.size⟩⟩
theorem OwnSJ.wide {w : World} {lo hi lo' hi' n : Nat} {A : Option Addr} {L : List PS} (h : OwnSJ w lo hi A n L) (h1 : lo' ≤ lo) (h2 : hi ≤ hi') : OwnSJ w lo' hi' A n L :=
  ⟨h.1, h.2.imp id fun ⟨g, hA, hg, hF⟩ => ⟨g, hA, Nat.lt_of_lt_of_le hg h2, hF.wide h1⟩⟩
theorem fillS_farJ {w w' : World} {lo' hi' B g n k : Nat} {L : List PS} (h : FillSJ w B g n k L) (hf : FarB lo' hi' w w') (hd : g < lo' ∨ hi' ≤ g) : FillSJ w' B g n k L := by
  have hb := hf.block g h.lt hd
  have hc : ∀ j, w'.cell? ⟨g, j, none⟩ = w.cell? ⟨g, j, none⟩ := fun j => World.cell?_of_block (a := ⟨g, j, none⟩) hb
  exact ⟨h.low, Nat.lt_of_lt_of_le h.lt hf.size, fun j => (World.frozen?_of_block (a := ⟨g, j, none⟩) hb).trans (h.free j), fun j hj => by
    obtain ⟨u, hu⟩ := h.cells j hj
    exact ⟨u, (hc j).trans hu⟩, fun j hj => by
    obtain ⟨v, hv, h5⟩ := h.done j hj
    exact ⟨v, hv, at5_otherJ h5 fun q _ _ => hc q⟩⟩
theorem OwnSJ.farB {w w' : World} {lo hi lo' hi' n : Nat} {A : Option Addr} {L : List PS} (h : OwnSJ w lo hi A n L) (hf : FarB lo' hi' w w') (hd : hi ≤ lo' ∨ hi' ≤ lo) : OwnSJ w' lo hi A n L :=
  ⟨h.1, h.2.imp id fun ⟨g, hA, hg, hF⟩ => ⟨g, hA, hg, fillS_farJ hF hf (by have := hF.low; omega)⟩⟩
theorem OwnSJ.sds {w : World} {lo hi n : Nat} {A : Option Addr} {L : List PS} (h : OwnSJ w lo hi A n L) : SdsJ w w.heap.size A n L := by
  obtain ⟨hl, rfl | ⟨g, rfl, hg, hF⟩⟩ := h
  · exact ⟨hl, fun k hk => absurd hk (by omega)⟩
  · exact sds_of_fillJ hF hl
theorem ownS_of_fillJ {w : World} {B g n : Nat} {L : List PS} (h : FillSJ w B g n n L) (hn : L.length = n) : OwnSJ w B w.heap.size (some ⟨g, 0, none⟩) n L := ⟨hn, .inr ⟨g, rfl, h.lt, h⟩⟩

/-- What marking from m on leaves of one line. -/
def markSJ (m : Nat) : PS := ⟨m, (m : Int) + 1, (m : Int) + 1 + 1, (m : Int) + 1 + 1 + 1, (m : Int) + 1 + 1 + 1 + 1, (m : Int) + 1 + 1 + 1 + 1 + 1⟩
def marksSJ (n : Nat) : List PS := (List.range n).map fun j => markSJ (6 * j + 1)
theorem marksS_lenJ (n : Nat) : (marksSJ n).length = n := by simp [marksSJ]
theorem marksS_atJ (n k : Nat) (h : k < n) : (marksSJ n)[k]? = some (markSJ (6 * k + 1)) := by simp [marksSJ, h]
set_option maxRecDepth 100000 in
set_option maxHeartbeats 3200000 in
theorem markFS_anyJ (g n c B : Nat) (L : List PS) (w : World) (h : FillSJ w B g n n L) (hm : n ≤ 1048576) :
    Calls Try.prog 52 #[.slice (some ⟨g, 0, none⟩) n c, .int .i64 1] w fun e w' => e = .returned (.int .i64 ((6 * n + 1 : Nat) : Int)) ∧ FillSJ w' B g n n (marksSJ n) ∧ FarB g (g + 1) w w' := by
  have H := Lib.hid (h.bare (marksSJ n))
  clear h
  go_enter Try.func52, Try.ntmps52
  go_wp2_with fail
  go_loopw [1, 5] (fun q i wr => ∃ k m : Nat, k ≤ n ∧ i = .int .i64 k ∧ q = .int .i64 m ∧ m = 6 * k + 1 ∧ Hid (FillSJ wr B g n k (marksSJ n)) ∧ Hid (FarB g (g + 1) w wr)) (fun _ i _ => n - (intOf i).toNat)
  case atStart => exact ⟨0, 1, Nat.zero_le _, rfl, rfl, rfl, H, Lib.hid (FarB.refl _ _ _)⟩
  case round =>
    obtain ⟨k, m, hk, rfl, rfl, hmk, hF, hR⟩ := hrel
    have hmb : m ≤ 6291457 := by omega
    have HMK := Lib.hid hmk
    clear hmk
    obtain ⟨W0, rfl⟩ : ∃ W : World, W = wr := ⟨_, rfl⟩
    by_cases hlt : k < n
    · have HK : Hid ((marksSJ n)[k]? = some (markSJ m)) := by unfold Hid; rw [HMK.out]; exact marksS_atJ n k hlt
      obtain ⟨v0, h0⟩ := hF.out.cells (k * 6) (by omega)
      obtain ⟨v1, h1⟩ := hF.out.cells (k * 6 + 1) (by omega)
      obtain ⟨v2, h2⟩ := hF.out.cells (k * 6 + 2) (by omega)
      obtain ⟨v3, h3⟩ := hF.out.cells (k * 6 + 3) (by omega)
      obtain ⟨v4, h4⟩ := hF.out.cells (k * 6 + 4) (by omega)
      obtain ⟨v5, h5⟩ := hF.out.cells (k * 6 + 5) (by omega)
      have f0 := hF.out.free (k * 6)
      have f1 := hF.out.free (k * 6 + 1)
      have f2 := hF.out.free (k * 6 + 2)
      have f3 := hF.out.free (k * 6 + 3)
      have f4 := hF.out.free (k * 6 + 4)
      have f5 := hF.out.free (k * 6 + 5)
      obtain ⟨vs, hvs⟩ : ∃ vs : List Value, vs = [.int .i64 (m : Int), .int .i64 ((m : Int) + 1), .int .i64 ((m : Int) + 1 + 1), .int .i64 ((m : Int) + 1 + 1 + 1), .int .i64 ((m : Int) + 1 + 1 + 1 + 1), .int .i64 ((m : Int) + 1 + 1 + 1 + 1 + 1)] := ⟨_, rfl⟩
      have hvl : vs.length = 6 := by rw [hvs]; rfl
      have hat := setL_at vs W0 g (k * 6) (fun i hi => hF.out.cells _ (by omega))
      have HF3 : Hid (FillSJ (setL W0 g (k * 6) vs) B g n (k + 1) (marksSJ n)) := Lib.hid ((hF.out.puts vs (k * 6) (Nat.le_refl _)).more HK.out ⟨hat 0 _ (by rw [hvs]; rfl), hat 1 _ (by rw [hvs]; rfl), hat 2 _ (by rw [hvs]; rfl), hat 3 _ (by rw [hvs]; rfl), hat 4 _ (by rw [hvs]; rfl), hat 5 _ (by rw [hvs]; rfl)⟩)
      have HR3 := Lib.hid (setL_farB vs hR.out (Nat.le_refl g) (Nat.lt_succ_self g) (k * 6))
      rw [hvs] at HF3 HR3
      clear hat hvl hvs vs
      go_wp2_with fail
      go_roundw
      case rel => exact ⟨k + 1, m + 6, by omega, by go_num, by first | rfl | go_num, by have := HMK.out; omega, HF3, HR3⟩
      case measure => simp [intOf]; omega
    · obtain rfl : k = n := by omega
      have HR : Hid ((m : Int) = ((6 * k + 1 : Nat) : Int)) := by unfold Hid; have := HMK.out; omega
      go_wp2_with fail
      go_ret
      exact ⟨ret_int HR.out, hF.out, hR.out⟩
theorem markS0_anyJ (A : Option Addr) (c : Nat) (w : World) :
    Calls Try.prog 52 #[.slice A 0 c, .int .i64 1] w fun e w' => e = .returned (.int .i64 1) ∧ w = w' := by
  go_enter Try.func52, Try.ntmps52
  go_wp2_with fail
  go_loop [1, 5] (fun q i => q = .int .i64 1 ∧ i = .int .i64 0) (fun _ i => 1 - (intOf i).toNat)
  case atStart => exact ⟨rfl, rfl⟩
  case round =>
    obtain ⟨rfl, rfl⟩ := hrel
    go_wp2_with fail
    go_ret
    exact ⟨rfl, rfl⟩
theorem markS_anyJ (A : Option Addr) (n c lo hi : Nat) (L : List PS) (w : World) (h : OwnSJ w lo hi A n L) (hm : n ≤ 1048576) :
    Calls Try.prog 52 #[.slice A n c, .int .i64 1] w fun e w' => e = .returned (.int .i64 ((6 * n + 1 : Nat) : Int)) ∧ OwnSJ w' lo hi A n (marksSJ n) ∧ FarB lo hi w w' := by
  obtain ⟨hl, rfl | ⟨g, rfl, hg, hF⟩⟩ := h
  · refine (markS0_anyJ A c w).mono ?_
    rintro e w' ⟨rfl, rfl⟩
    exact ⟨rfl, ⟨marksS_lenJ 0, .inl rfl⟩, FarB.refl _ _ _⟩
  · refine (markFS_anyJ g n c lo L w hF hm).mono ?_
    rintro e w' ⟨rfl, hF', hR⟩
    exact ⟨rfl, ⟨marksS_lenJ n, .inr ⟨g, rfl, hg, hF'⟩⟩, ⟨hR.os, hR.tape, hR.output, hR.size, fun k hk ho => hR.block k hk (by have := hF.low; omega)⟩⟩
theorem markS_posJ (A : Option Addr) (n c lo hi : Nat) (L : List PS) (w : World) (h : OwnSJ w lo hi A n L) (hm : n ≤ 1048576) :
    Calls Try.prog 52 #[.slice A n c, .int .i64 1] w fun e w' => (∃ m : Int, e = .returned (.int .i64 m) ∧ 0 ≤ m) ∧ FarB lo hi w w' :=
  (markS_anyJ A n c lo hi L w h hm).mono fun _ _ h => ⟨⟨_, h.1, by omega⟩, h.2.2⟩
theorem markS_kJ (A : Option Addr) (n c lo hi : Nat) (L : List PS) (w : World) (K : Int) (hK : ((6 * n + 1 : Nat) : Int) = K) (h : OwnSJ w lo hi A n L) (hm : n ≤ 1048576) :
    Calls Try.prog 52 #[.slice A n c, .int .i64 1] w fun e w' => e = .returned (.int .i64 K) ∧ OwnSJ w' lo hi A n (marksSJ n) ∧ FarB lo hi w w' := by
  subst hK
  exact markS_anyJ A n c lo hi L w h hm
set_option maxRecDepth 100000 in
set_option maxHeartbeats 3200000 in
theorem heldFS_anyJ (g n c B : Nat) (w : World) (h : FillSJ w B g n n (marksSJ n)) (hm : n ≤ 1048576) :
    Calls Try.prog 59 #[.slice (some ⟨g, 0, none⟩) n c, .int .i64 1] w fun e w' => e = .returned (.int .i64 ((6 * n + 1 : Nat) : Int)) ∧ w = w' := by
  have H := Lib.hid h
  clear h
  go_enter Try.func59, Try.ntmps59
  go_wp2_with fail
  go_loop [1, 5] (fun q i => ∃ k m : Nat, k ≤ n ∧ i = .int .i64 k ∧ q = .int .i64 m ∧ m = 6 * k + 1) (fun _ i => n - (intOf i).toNat)
  case atStart => exact ⟨0, 1, Nat.zero_le _, rfl, rfl, rfl⟩
  case round =>
    obtain ⟨k, m, hk, rfl, rfl, hmk⟩ := hrel
    have hmb : m ≤ 6291457 := by omega
    have HMK := Lib.hid hmk
    clear hmk
    by_cases hlt : k < n
    · obtain ⟨v, hv, h5⟩ := H.out.done k hlt
      obtain rfl : v = markSJ m := by rw [marksS_atJ n k hlt] at hv; rw [HMK.out]; exact (Option.some.inj hv).symm
      obtain ⟨c0, c1, c2, c3, c4, c5⟩ := h5
      dsimp only [markSJ] at c0 c1 c2 c3 c4 c5
      clear hv
      go_wp2_with fail
      go_round
      case rel => exact ⟨k + 1, m + 6, by omega, by go_num, by first | rfl | go_num, by have := HMK.out; omega⟩
      case measure => simp [intOf]; omega
    · obtain rfl : k = n := by omega
      have HR : Hid ((m : Int) = ((6 * k + 1 : Nat) : Int)) := by unfold Hid; have := HMK.out; omega
      go_wp2_with fail
      go_ret
      exact ⟨ret_int HR.out, rfl⟩
theorem heldS0_anyJ (A : Option Addr) (c : Nat) (w : World) :
    Calls Try.prog 59 #[.slice A 0 c, .int .i64 1] w fun e w' => e = .returned (.int .i64 1) ∧ w = w' := by
  go_enter Try.func59, Try.ntmps59
  go_wp2_with fail
  go_loop [1, 5] (fun q i => q = .int .i64 1 ∧ i = .int .i64 0) (fun _ i => 1 - (intOf i).toNat)
  case atStart => exact ⟨rfl, rfl⟩
  case round =>
    obtain ⟨rfl, rfl⟩ := hrel
    go_wp2_with fail
    go_ret
    exact ⟨rfl, rfl⟩
theorem heldS_anyJ (A : Option Addr) (n c lo hi : Nat) (w : World) (h : OwnSJ w lo hi A n (marksSJ n)) (hm : n ≤ 1048576) :
    Calls Try.prog 59 #[.slice A n c, .int .i64 1] w fun e w' => e = .returned (.int .i64 ((6 * n + 1 : Nat) : Int)) ∧ w = w' := by
  obtain ⟨hl, rfl | ⟨g, rfl, hg, hF⟩⟩ := h
  · refine (heldS0_anyJ A c w).mono ?_
    rintro e w' ⟨rfl, rfl⟩
    exact ⟨rfl, rfl⟩
  · exact heldFS_anyJ g n c lo w hF hm
theorem heldS_kJ (A : Option Addr) (n c lo hi : Nat) (w : World) (K : Int) (hK : ((6 * n + 1 : Nat) : Int) = K) (h : OwnSJ w lo hi A n (marksSJ n)) (hm : n ≤ 1048576) :
    Calls Try.prog 59 #[.slice A n c, .int .i64 1] w fun e w' => e = .returned (.int .i64 K) ∧ w = w' := by
  subst hK
  exact heldS_anyJ A n c lo hi w h hm
end Go.Proofs.Ytllfmjnniagjfaa
