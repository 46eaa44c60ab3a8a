/-
  Marks of lines: rows of lines of the call's own; contracts of laws.markCrossingS, heldCrossingS over this translation. Conditions: stated at each theorem.
-/
import Derived.Test.YtlakdlghkniegaaXl
namespace Go.Proofs.Ytlakdlghkniegaa
open Go.RowKit

/-- The slice value with address A and n elements holds the lines L; its block lies from lo on and below hi, and may be written. -/
def OwnSX (w : World) (lo hi : Nat) (A : Option Addr) (n : Nat) (L : List XD) : Prop :=
  L.length = n ∧ (n = 0 ∨ ∃ g, A = some ⟨g, 0, none⟩ ∧ g < hi ∧ FillSX w lo g n n L)
theorem OwnSX.on {w w' : World} {lo hi B n : Nat} {A : Option Addr} {L : List XD} (h : OwnSX w lo hi A n L) (hb : Below B w w') (hB : hi ≤ B) : OwnSX w' lo hi A n L :=
  ⟨h.1, h.2.imp id fun ⟨g, hA, hg, hF⟩ => ⟨g, hA, hg, hF.on hb (Nat.lt_of_lt_of_le hg hB) hb.size⟩⟩
theorem OwnSX.wide {w : World} {lo hi lo' hi' n : Nat} {A : Option Addr} {L : List XD} (h : OwnSX w lo hi A n L) (h1 : lo' ≤ lo) (h2 : hi ≤ hi') : OwnSX w lo' hi' A n L :=
  ⟨h.1, h.2.imp id fun ⟨g, hA, hg, hF⟩ => ⟨g, hA, Nat.lt_of_lt_of_le hg h2, hF.wide h1⟩⟩
theorem fillS_farX {w w' : World} {lo' hi' B g n k : Nat} {L : List XD} (h : FillSX w B g n k L) (hf : FarB lo' hi' w w') (hd : g < lo' ∨ hi' ≤ g) : FillSX w' B g n k L := by
  have hb := hf.block g h.lt hd
  have hc : ∀ j, w'.cell? ⟨g, j, none⟩ = w.cell? ⟨g, j, none⟩ := fun j => World.cell?_of_block (a := ⟨g, j, none⟩) hb
  exact ⟨h.low, Nat.lt_of_lt_of_le h.lt hf.size, fun j => (World.frozen?_of_block (a := ⟨g, j, none⟩) hb).trans (h.free j), fun j hj => by
    obtain ⟨u, hu⟩ := h.cells j hj
    exact ⟨u, (hc j).trans hu⟩, fun j hj => by
    obtain ⟨v, hv, h5⟩ := h.done j hj
    exact ⟨v, hv, at5_otherX h5 fun q _ _ => hc q⟩⟩
theorem OwnSX.farB {w w' : World} {lo hi lo' hi' n : Nat} {A : Option Addr} {L : List XD} (h : OwnSX w lo hi A n L) (hf : FarB lo' hi' w w') (hd : hi ≤ lo' ∨ hi' ≤ lo) : OwnSX w' lo hi A n L :=
  ⟨h.1, h.2.imp id fun ⟨g, hA, hg, hF⟩ => ⟨g, hA, hg, fillS_farX hF hf (by have := hF.low; omega)⟩⟩
theorem OwnSX.sds {w : World} {lo hi n : Nat} {A : Option Addr} {L : List XD} (h : OwnSX w lo hi A n L) : SdsX w w.heap.size A n L := by
  obtain ⟨hl, rfl | ⟨g, rfl, hg, hF⟩⟩ := h
  · exact ⟨hl, fun k hk => absurd hk (by omega)⟩
  · exact sds_of_fillX hF hl
theorem ownS_of_fillX {w : World} {B g n : Nat} {L : List XD} (h : FillSX w B g n n L) (hn : L.length = n) : OwnSX w B w.heap.size (some ⟨g, 0, none⟩) n L := ⟨hn, .inr ⟨g, rfl, h.lt, h⟩⟩

/-- What marking from m on leaves of one line. -/
def markSX (m : Nat) : XD := ⟨m, (m : Int) + 1, (m : Int) + 1 + 1, (m : Int) + 1 + 1 + 1⟩
def marksSX (n : Nat) : List XD := (List.range n).map fun j => markSX (4 * j + 1)
theorem marksS_lenX (n : Nat) : (marksSX n).length = n := by simp [marksSX]
theorem marksS_atX (n k : Nat) (h : k < n) : (marksSX n)[k]? = some (markSX (4 * k + 1)) := by simp [marksSX, h]
set_option maxRecDepth 100000 in
set_option maxHeartbeats 3200000 in
theorem markFS_anyX (g n c B : Nat) (L : List XD) (w : World) (h : FillSX w B g n n L) (hm : n ≤ 1048576) :
    Calls Try.prog 49 #[.slice (some ⟨g, 0, none⟩) n c, .int .i64 1] w fun e w' => e = .returned (.int .i64 ((4 * n + 1 : Nat) : Int)) ∧ FillSX w' B g n n (marksSX n) ∧ FarB g (g + 1) w w' := by
  have H := Lib.hid (h.bare (marksSX n))
  clear h
  go_enter Try.func49, Try.ntmps49
  go_wp2_with fail
  go_loopw [1, 5] (fun q i wr => ∃ k m : Nat, k ≤ n ∧ i = .int .i64 k ∧ q = .int .i64 m ∧ m = 4 * k + 1 ∧ Hid (FillSX wr B g n k (marksSX n)) ∧ Hid (FarB g (g + 1) w wr)) (fun _ i _ => n - (intOf i).toNat)
  case atStart => exact ⟨0, 1, Nat.zero_le _, rfl, rfl, rfl, H, Lib.hid (FarB.refl _ _ _)⟩
  case round =>
    obtain ⟨k, m, hk, rfl, rfl, hmk, hF, hR⟩ := hrel
    have hmb : m ≤ 4194305 := by omega
    have HMK := Lib.hid hmk
    clear hmk
    obtain ⟨W0, rfl⟩ : ∃ W : World, W = wr := ⟨_, rfl⟩
    by_cases hlt : k < n
    · have HK : Hid ((marksSX n)[k]? = some (markSX m)) := by unfold Hid; rw [HMK.out]; exact marksS_atX n k hlt
      obtain ⟨v0, h0⟩ := hF.out.cells (k * 4) (by omega)
      obtain ⟨v1, h1⟩ := hF.out.cells (k * 4 + 1) (by omega)
      obtain ⟨v2, h2⟩ := hF.out.cells (k * 4 + 2) (by omega)
      obtain ⟨v3, h3⟩ := hF.out.cells (k * 4 + 3) (by omega)
      have f0 := hF.out.free (k * 4)
      have f1 := hF.out.free (k * 4 + 1)
      have f2 := hF.out.free (k * 4 + 2)
      have f3 := hF.out.free (k * 4 + 3)
      obtain ⟨vs, hvs⟩ : ∃ vs : List Value, vs = [.int .i64 (m : Int), .int .i64 ((m : Int) + 1), .int .i64 ((m : Int) + 1 + 1), .int .i64 ((m : Int) + 1 + 1 + 1)] := ⟨_, rfl⟩
      have hvl : vs.length = 4 := by rw [hvs]; rfl
      have hat := setL_at vs W0 g (k * 4) (fun i hi => hF.out.cells _ (by omega))
      have HF3 : Hid (FillSX (setL W0 g (k * 4) vs) B g n (k + 1) (marksSX n)) := Lib.hid ((hF.out.puts vs (k * 4) (Nat.le_refl _)).more HK.out ⟨hat 0 _ (by rw [hvs]; rfl), hat 1 _ (by rw [hvs]; rfl), hat 2 _ (by rw [hvs]; rfl), hat 3 _ (by rw [hvs]; rfl)⟩)
      have HR3 := Lib.hid (setL_farB vs hR.out (Nat.le_refl g) (Nat.lt_succ_self g) (k * 4))
      rw [hvs] at HF3 HR3
      clear hat hvl hvs vs
      go_wp2_with fail
      go_roundw
      case rel => exact ⟨k + 1, m + 4, by omega, by go_num, by first | rfl | go_num, by have := HMK.out; omega, HF3, HR3⟩
      case measure => simp [intOf]; omega
    · obtain rfl : k = n := by omega
      have HR : Hid ((m : Int) = ((4 * k + 1 : Nat) : Int)) := by unfold Hid; have := HMK.out; omega
      go_wp2_with fail
      go_ret
      exact ⟨ret_int HR.out, hF.out, hR.out⟩
theorem markS0_anyX (A : Option Addr) (c : Nat) (w : World) :
    Calls Try.prog 49 #[.slice A 0 c, .int .i64 1] w fun e w' => e = .returned (.int .i64 1) ∧ w = w' := by
  go_enter Try.func49, Try.ntmps49
  go_wp2_with fail
  go_loop [1, 5] (fun q i => q = .int .i64 1 ∧ i = .int .i64 0) (fun _ i => 1 - (intOf i).toNat)
  case atStart => exact ⟨rfl, rfl⟩
  case round =>
    obtain ⟨rfl, rfl⟩ := hrel
    go_wp2_with fail
    go_ret
    exact ⟨rfl, rfl⟩
theorem markS_anyX (A : Option Addr) (n c lo hi : Nat) (L : List XD) (w : World) (h : OwnSX w lo hi A n L) (hm : n ≤ 1048576) :
    Calls Try.prog 49 #[.slice A n c, .int .i64 1] w fun e w' => e = .returned (.int .i64 ((4 * n + 1 : Nat) : Int)) ∧ OwnSX w' lo hi A n (marksSX n) ∧ FarB lo hi w w' := by
  obtain ⟨hl, rfl | ⟨g, rfl, hg, hF⟩⟩ := h
  · refine (markS0_anyX A c w).mono ?_
    rintro e w' ⟨rfl, rfl⟩
    exact ⟨rfl, ⟨marksS_lenX 0, .inl rfl⟩, FarB.refl _ _ _⟩
  · refine (markFS_anyX g n c lo L w hF hm).mono ?_
    rintro e w' ⟨rfl, hF', hR⟩
    exact ⟨rfl, ⟨marksS_lenX n, .inr ⟨g, rfl, hg, hF'⟩⟩, ⟨hR.os, hR.tape, hR.output, hR.size, fun k hk ho => hR.block k hk (by have := hF.low; omega)⟩⟩
theorem markS_posX (A : Option Addr) (n c lo hi : Nat) (L : List XD) (w : World) (h : OwnSX w lo hi A n L) (hm : n ≤ 1048576) :
    Calls Try.prog 49 #[.slice A n c, .int .i64 1] w fun e w' => (∃ m : Int, e = .returned (.int .i64 m) ∧ 0 ≤ m) ∧ FarB lo hi w w' :=
  (markS_anyX A n c lo hi L w h hm).mono fun _ _ h => ⟨⟨_, h.1, by omega⟩, h.2.2⟩
theorem markS_kX (A : Option Addr) (n c lo hi : Nat) (L : List XD) (w : World) (K : Int) (hK : ((4 * n + 1 : Nat) : Int) = K) (h : OwnSX w lo hi A n L) (hm : n ≤ 1048576) :
    Calls Try.prog 49 #[.slice A n c, .int .i64 1] w fun e w' => e = .returned (.int .i64 K) ∧ OwnSX w' lo hi A n (marksSX n) ∧ FarB lo hi w w' := by
  subst hK
  exact markS_anyX A n c lo hi L w h hm
set_option maxRecDepth 100000 in
set_option maxHeartbeats 3200000 in
theorem heldFS_anyX (g n c B : Nat) (w : World) (h : FillSX w B g n n (marksSX n)) (hm : n ≤ 1048576) :
    Calls Try.prog 52 #[.slice (some ⟨g, 0, none⟩) n c, .int .i64 1] w fun e w' => e = .returned (.int .i64 ((4 * n + 1 : Nat) : Int)) ∧ w = w' := by
  have H := Lib.hid h
  clear h
  go_enter Try.func52, Try.ntmps52
  go_wp2_with fail
  go_loop [1, 5] (fun q i => ∃ k m : Nat, k ≤ n ∧ i = .int .i64 k ∧ q = .int .i64 m ∧ m = 4 * k + 1) (fun _ i => n - (intOf i).toNat)
  case atStart => exact ⟨0, 1, Nat.zero_le _, rfl, rfl, rfl⟩
  case round =>
    obtain ⟨k, m, hk, rfl, rfl, hmk⟩ := hrel
    have hmb : m ≤ 4194305 := by omega
    have HMK := Lib.hid hmk
    clear hmk
    by_cases hlt : k < n
    · obtain ⟨v, hv, h5⟩ := H.out.done k hlt
      obtain rfl : v = markSX m := by rw [marksS_atX n k hlt] at hv; rw [HMK.out]; exact (Option.some.inj hv).symm
      obtain ⟨c0, c1, c2, c3⟩ := h5
      dsimp only [markSX] at c0 c1 c2 c3
      clear hv
      go_wp2_with fail
      go_round
      case rel => exact ⟨k + 1, m + 4, by omega, by go_num, by first | rfl | go_num, by have := HMK.out; omega⟩
      case measure => simp [intOf]; omega
    · obtain rfl : k = n := by omega
      have HR : Hid ((m : Int) = ((4 * k + 1 : Nat) : Int)) := by unfold Hid; have := HMK.out; omega
      go_wp2_with fail
      go_ret
      exact ⟨ret_int HR.out, rfl⟩
theorem heldS0_anyX (A : Option Addr) (c : Nat) (w : World) :
    Calls Try.prog 52 #[.slice A 0 c, .int .i64 1] w fun e w' => e = .returned (.int .i64 1) ∧ w = w' := by
  go_enter Try.func52, Try.ntmps52
  go_wp2_with fail
  go_loop [1, 5] (fun q i => q = .int .i64 1 ∧ i = .int .i64 0) (fun _ i => 1 - (intOf i).toNat)
  case atStart => exact ⟨rfl, rfl⟩
  case round =>
    obtain ⟨rfl, rfl⟩ := hrel
    go_wp2_with fail
    go_ret
    exact ⟨rfl, rfl⟩
theorem heldS_anyX (A : Option Addr) (n c lo hi : Nat) (w : World) (h : OwnSX w lo hi A n (marksSX n)) (hm : n ≤ 1048576) :
    Calls Try.prog 52 #[.slice A n c, .int .i64 1] w fun e w' => e = .returned (.int .i64 ((4 * n + 1 : Nat) : Int)) ∧ w = w' := by
  obtain ⟨hl, rfl | ⟨g, rfl, hg, hF⟩⟩ := h
  · refine (heldS0_anyX A c w).mono ?_
    rintro e w' ⟨rfl, rfl⟩
    exact ⟨rfl, rfl⟩
  · exact heldFS_anyX g n c lo w hF hm
theorem heldS_kX (A : Option Addr) (n c lo hi : Nat) (w : World) (K : Int) (hK : ((4 * n + 1 : Nat) : Int) = K) (h : OwnSX w lo hi A n (marksSX n)) (hm : n ≤ 1048576) :
    Calls Try.prog 52 #[.slice A n c, .int .i64 1] w fun e w' => e = .returned (.int .i64 K) ∧ w = w' := by
  subst hK
  exact heldS_anyX A n c lo hi w h hm
end Go.Proofs.Ytlakdlghkniegaa
