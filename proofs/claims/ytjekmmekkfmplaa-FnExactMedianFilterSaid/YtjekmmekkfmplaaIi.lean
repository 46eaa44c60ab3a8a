/-
  What the laws do with rows of numbers: contracts of laws.eqIntS, markIntS, heldIntS over this translation. Conditions: stated at each theorem.
-/
import Derived.Test.YtjekmmekkfmplaaBase
namespace Go.Proofs.Ytjekmmekkfmplaa
open Go.RowKit

/-! ### laws.eqIntS -/
set_option maxHeartbeats 800000 in
theorem eqI_same (A A' : Option Addr) (n c c' lo hi lo' hi' : Nat) (f : Nat → Int) (w : World) (h1 : IFun w lo hi A n f) (h2 : IFun w lo' hi' A' n f) (hm : n ≤ 1048576) :
    Calls Try.prog 49 #[.slice A n c, .slice A' n c'] w fun e w' => e = .returned (.bool true) ∧ ∃ k, w' = w.drewN k := by
  have H1 := Lib.hid h1
  have H2 := Lib.hid h2
  clear h1 h2
  go_enter Try.func49, Try.ntmps49
  go_wp2
  go_loopw [5] (fun i wr => ∃ k d : Nat, k ≤ n ∧ i = .int .i64 k ∧ wr = w.drewN d) (fun i _ => n - (intOf i).toNat)
  case atStart => exact ⟨0, 0, Nat.zero_le _, rfl, by rw [World.drewN_zero]⟩
  case round =>
    obtain ⟨k, d, hk, rfl, rfl⟩ := hrel
    by_cases hlt : k < n
    · obtain ⟨g, rfl, _, _, hc1, _⟩ := H1.out k hlt
      obtain ⟨g', rfl, _, _, hc2, _⟩ := H2.out k hlt
      go_wp2_with fail
      go_quiet (fail)
      go_wp2
      go_roundw
      case rel => exact ⟨k + 1, _, by omega, by go_num, rfl⟩
      case measure => simp [intOf]; omega
    · go_wp2
      go_ret
      exact ⟨rfl, _, rfl⟩

/-! ### laws.markIntS, laws.heldIntS -/
def MarkPost (lo hi : Nat) (A : Option Addr) (n : Nat) (w : World) (e : Ending) (w' : World) : Prop :=
  e = .returned (.int .i64 ((n : Int) + 1)) ∧ IFun w' lo hi A n (fun j => (j : Int) + 1) ∧ Far lo hi w w'
set_option maxHeartbeats 800000 in
theorem markI_any (A : Option Addr) (n c lo hi : Nat) (f : Nat → Int) (w : World) (h : IFun w lo hi A n f) (hm : n ≤ 1048576) :
    Calls Try.prog 50 #[.slice A n c, .int .i64 1] w (MarkPost lo hi A n w) := by
  have H := Lib.hid h
  clear h
  go_enter Try.func50, Try.ntmps50
  go_wp2
  go_loopw [1, 5] (fun m i wr => ∃ k : Nat, k ≤ n ∧ i = .int .i64 k ∧ m = .int .i64 ((k : Int) + 1) ∧ Hid (IFun wr lo hi A n (fun j => if j < k then (j : Int) + 1 else f j) ∧ Far lo hi w wr)) (fun _ i _ => n - (intOf i).toNat)
  case atStart => exact ⟨0, Nat.zero_le _, rfl, rfl, Lib.hid ⟨H.out.congr (fun k _ => by simp), Far.refl _ _ _⟩⟩
  case round =>
    obtain ⟨k, hk, rfl, rfl, hI⟩ := hrel
    by_cases hlt : k < n
    · obtain ⟨g, rfl, hg1, hg2, hc, hf⟩ := hI.out.1 k hlt
      have HN : Hid (IFun (wr.setCell ⟨g, k, none⟩ (.int .i64 ((k : Int) + 1))) lo hi (some ⟨g, 0, none⟩) n (fun j => if j < k + 1 then (j : Int) + 1 else f j) ∧ Far lo hi w (wr.setCell ⟨g, k, none⟩ (.int .i64 ((k : Int) + 1)))) := by
        refine ⟨(hI.out.1.set (k := k) ((k : Int) + 1)).congr (fun j _ => ?_), hI.out.2.setCell (p := ⟨g, k, none⟩) hg1 hg2 _⟩
        by_cases e : j = k
        · subst e; simp
        · by_cases hj : j < k
          · rw [if_neg e, if_pos hj, if_pos (by omega)]
          · rw [if_neg e, if_neg hj, if_neg (by omega)]
      dsimp only at hc
      rw [if_neg (Nat.lt_irrefl k)] at hc
      go_wp2
      go_roundw
      case rel => exact ⟨k + 1, by omega, by go_num, by go_num, HN⟩
      case measure => simp [intOf]; omega
    · obtain rfl : k = n := by omega
      have HR : Hid (IFun wr lo hi A k (fun j => (j : Int) + 1)) := hI.out.1.congr fun j hj => by rw [if_pos hj]
      go_wp2
      go_ret
      exact ⟨rfl, HR.out, hI.out.2⟩
set_option maxHeartbeats 800000 in
theorem heldI_any (A : Option Addr) (n c lo hi : Nat) (w : World) (h : IFun w lo hi A n (fun j => (j : Int) + 1)) (hm : n ≤ 1048576) :
    Calls Try.prog 51 #[.slice A n c, .int .i64 1] w fun e w' => e = .returned (.int .i64 ((n : Int) + 1)) ∧ w = w' := by
  have H := Lib.hid h
  clear h
  go_enter Try.func51, Try.ntmps51
  go_wp2
  go_loop [1, 5] (fun m i => ∃ k : Nat, k ≤ n ∧ i = .int .i64 k ∧ m = .int .i64 ((k : Int) + 1)) (fun _ i => n - (intOf i).toNat)
  case atStart => exact ⟨0, Nat.zero_le _, rfl, rfl⟩
  case round =>
    obtain ⟨k, hk, rfl, rfl⟩ := hrel
    by_cases hlt : k < n
    · obtain ⟨g, rfl, _, _, hc, _⟩ := H.out k hlt
      go_wp2
      go_round
      case rel => exact ⟨k + 1, by omega, by go_num, by go_num⟩
      case measure => simp [intOf]; omega
    · obtain rfl : k = n := by omega
      go_wp2
      go_ret
      exact ⟨rfl, rfl⟩

theorem eqI_b (A A' : Option Addr) (n c c' lo hi lo' hi' : Nat) (f : Nat → Int) (w : World) (h1 : IFun w lo hi A n f) (h2 : IFun w lo' hi' A' n f) (hm : n ≤ 1048576) :
    Calls Try.prog 49 #[.slice A n c, .slice A' n c'] w fun e w' => e = .returned (.bool true) ∧ Below w.heap.size w w' :=
  (eqI_same A A' n c c' lo hi lo' hi' f w h1 h2 hm).mono fun _ w' h => ⟨h.1, by obtain ⟨_, k, rfl⟩ := h; exact bdrewN (Below.refl _ _) k⟩
end Go.Proofs.Ytjekmmekkfmplaa
