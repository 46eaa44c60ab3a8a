/-
  Rows of rows of two numbers of the call's own; contracts of laws.markIntS, heldIntS from any start, laws.eqIntSS, markIntSS, heldIntSS over this translation. Conditions: stated at each theorem.
-/
import Derived.Test.YtjekmmekkfmplaaIi
import Derived.Test.YtjekmmekkfmplaaFb
namespace Go.Proofs.Ytjekmmekkfmplaa
open Go.RowKit

/-- The slice value with address A and n elements holds n rows of two numbers, the rows' blocks are those of G, each apart from all others; all lies from lo on and below hi, and may be written. -/
def Apart (G : List Nat) : Prop := ∀ (j k a : Nat), G[j]? = some a → G[k]? = some a → j = k
def RF (w : World) (lo hi : Nat) (A : Option Addr) (n : Nat) (G : List Nat) (F : Nat → Nat → Int) : Prop :=
  G.length = n ∧ Apart G ∧ ∀ k, k < n → ∃ g gk, A = some ⟨g, 0, none⟩ ∧ lo ≤ g ∧ g < hi ∧ G[k]? = some gk ∧ lo ≤ gk ∧ gk < hi ∧ gk ≠ g ∧ w.cell? ⟨g, k, none⟩ = some (.slice (some ⟨gk, 0, none⟩) 2 2) ∧ IFun w gk (gk + 1) (some ⟨gk, 0, none⟩) 2 (F k)
theorem RF.on {w w' : World} {lo hi B n : Nat} {A : Option Addr} {G : List Nat} {F : Nat → Nat → Int} (h : RF w lo hi A n G F) (hb : Below B w w') (hB : hi ≤ B) : RF w' lo hi A n G F :=
  ⟨h.1, h.2.1, fun k hk => by
    obtain ⟨g, gk, hA, a, b, c0, c, d, e, h1, h2⟩ := h.2.2 k hk
    exact ⟨g, gk, hA, a, b, c0, c, d, e, (hb.cell (p := ⟨g, _, none⟩) (by simp only; omega)).trans h1, h2.on hb (by omega)⟩⟩
theorem RF.far {w w' : World} {lo hi lo' hi' n : Nat} {A : Option Addr} {G : List Nat} {F : Nat → Nat → Int} (h : RF w lo hi A n G F) (hf : Far lo' hi' w w') (hs : hi ≤ w.heap.size) (hd : hi ≤ lo' ∨ hi' ≤ lo) : RF w' lo hi A n G F :=
  ⟨h.1, h.2.1, fun k hk => by
    obtain ⟨g, gk, hA, a, b, c0, c, d, e, h1, h2⟩ := h.2.2 k hk
    have hb := hf.block g (by omega) (by omega)
    exact ⟨g, gk, hA, a, b, c0, c, d, e, (World.cell?_of_block (a := ⟨g, k, none⟩) hb).trans h1, h2.far hf (by omega) (by omega)⟩⟩
theorem RF.wide {w : World} {lo hi lo' hi' n : Nat} {A : Option Addr} {G : List Nat} {F : Nat → Nat → Int} (h : RF w lo hi A n G F) (h1 : lo' ≤ lo) (h2 : hi ≤ hi') : RF w lo' hi' A n G F :=
  ⟨h.1, h.2.1, fun k hk => by
    obtain ⟨g, gk, hA, a, b, c0, c, d, e⟩ := h.2.2 k hk
    exact ⟨g, gk, hA, by omega, by omega, c0, by omega, by omega, e⟩⟩
theorem Far.then {lo hi lo' hi' : Nat} {a b c : World} (h : Far lo hi a b) (k : Far lo' hi' b c) (h1 : lo ≤ lo') (h2 : hi' ≤ hi) : Far lo hi a c :=
  ⟨k.os.trans h.os, k.tape.trans h.tape, k.output.trans h.output, k.size.trans h.size, fun j hj ho => (k.block j (by rw [h.size]; exact hj) (by omega)).trans (h.block j hj ho)⟩

set_option maxHeartbeats 800000 in
theorem markI_from (A : Option Addr) (n c lo hi m : Nat) (f : Nat → Int) (w : World) (h : IFun w lo hi A n f) (hm : n ≤ 1048576) (hmm : m ≤ 5000000000000) :
    Calls Try.prog 50 #[.slice A n c, .int .i64 m] w fun e w' => e = .returned (.int .i64 ((m + n : Nat) : Int)) ∧ IFun w' lo hi A n (fun j => ((m + j : Nat) : Int)) ∧ Far lo hi w w' := by
  have H := Lib.hid h
  clear h
  go_enter Try.func50, Try.ntmps50
  go_wp2
  go_loopw [1, 5] (fun q i wr => ∃ k : Nat, k ≤ n ∧ i = .int .i64 k ∧ q = .int .i64 ((m + k : Nat) : Int) ∧ Hid (IFun wr lo hi A n (fun j => if j < k then ((m + j : Nat) : Int) else f j) ∧ Far lo hi w wr)) (fun _ i _ => n - (intOf i).toNat)
  case atStart => exact ⟨0, Nat.zero_le _, rfl, rfl, Lib.hid ⟨H.out.congr (fun k _ => by simp), Far.refl _ _ _⟩⟩
  case round =>
    obtain ⟨k, hk, rfl, rfl, hI⟩ := hrel
    by_cases hlt : k < n
    · obtain ⟨g, rfl, hg1, hg2, hc, hf⟩ := hI.out.1 k hlt
      have HN : Hid (IFun (wr.setCell ⟨g, k, none⟩ (.int .i64 ((m + k : Nat) : Int))) lo hi (some ⟨g, 0, none⟩) n (fun j => if j < k + 1 then ((m + j : Nat) : Int) else f j) ∧ Far lo hi w (wr.setCell ⟨g, k, none⟩ (.int .i64 ((m + k : Nat) : Int)))) := by
        refine ⟨(hI.out.1.set (k := k) ((m + k : Nat) : Int)).congr (fun j _ => ?_), hI.out.2.setCell (p := ⟨g, k, none⟩) hg1 hg2 _⟩
        by_cases e : j = k
        · subst e; simp
        · by_cases hj : j < k
          · rw [if_neg e, if_pos hj, if_pos (by omega)]
          · rw [if_neg e, if_neg hj, if_neg (by omega)]
      dsimp only at hc
      rw [if_neg (Nat.lt_irrefl k)] at hc
      go_wp2
      go_roundw
      case rel => exact ⟨k + 1, by omega, by go_num, by go_num, HN⟩
      case measure => simp [intOf]; omega
    · obtain rfl : k = n := by omega
      have HR : Hid (IFun wr lo hi A k (fun j => ((m + j : Nat) : Int))) := Lib.hid (hI.out.1.congr fun j hj => by rw [if_pos hj])
      go_wp2
      go_ret
      exact ⟨rfl, HR.out, hI.out.2⟩
set_option maxHeartbeats 800000 in
theorem heldI_from (A : Option Addr) (n c lo hi m : Nat) (w : World) (h : IFun w lo hi A n (fun j => ((m + j : Nat) : Int))) (hm : n ≤ 1048576) (hmm : m ≤ 5000000000000) :
    Calls Try.prog 51 #[.slice A n c, .int .i64 m] w fun e w' => e = .returned (.int .i64 ((m + n : Nat) : Int)) ∧ w = w' := by
  have H := Lib.hid h
  clear h
  go_enter Try.func51, Try.ntmps51
  go_wp2
  go_loop [1, 5] (fun q i => ∃ k : Nat, k ≤ n ∧ i = .int .i64 k ∧ q = .int .i64 ((m + k : Nat) : Int)) (fun _ i => n - (intOf i).toNat)
  case atStart => exact ⟨0, Nat.zero_le _, rfl, rfl⟩
  case round =>
    obtain ⟨k, hk, rfl, rfl⟩ := hrel
    by_cases hlt : k < n
    · obtain ⟨g, rfl, _, _, hc, _⟩ := H.out k hlt
      dsimp only at hc
      go_wp2
      go_round
      case rel => exact ⟨k + 1, by omega, by go_num, by go_num⟩
      case measure => simp [intOf]; omega
    · obtain rfl : k = n := by omega
      go_wp2
      go_ret
      exact ⟨rfl, rfl⟩

/-! ### laws.eqIntSS -/
/-! ### laws.markIntSS, laws.heldIntSS -/
def mkF (F : Nat → Nat → Int) (k : Nat) : Nat → Nat → Int := fun j i => if j < k then ((1 + 2 * j + i : Nat) : Int) else F j i
theorem rf_step {w w' : World} {lo hi n k gk : Nat} {A : Option Addr} {G : List Nat} {F : Nat → Nat → Int} (h : RF w lo hi A n G (mkF F k)) (hk : k < n) (hg : G[k]? = some gk) (hi' : hi ≤ w.heap.size)
    (hm : IFun w' gk (gk + 1) (some ⟨gk, 0, none⟩) 2 (fun i => ((1 + 2 * k + i : Nat) : Int))) (hf : Far gk (gk + 1) w w') : RF w' lo hi A n G (mkF F (k + 1)) :=
  ⟨h.1, h.2.1, fun j hj => by
    obtain ⟨g, gj, hA, a, b, c0, c, d, e, h1, h2⟩ := h.2.2 j hj
    obtain ⟨g', gk', hA', _, _, c0', _, _, e', _, _⟩ := h.2.2 k hk
    obtain rfl : g = g' := by rw [hA] at hA'; injection hA' with q; injection q
    obtain rfl : gk = gk' := Option.some.inj (hg.symm.trans c0')
    have hb := hf.block g (by omega) (by omega)
    refine ⟨g, gj, hA, a, b, c0, c, d, e, (World.cell?_of_block (a := ⟨g, j, none⟩) hb).trans h1, ?_⟩
    by_cases q : j = k
    · subst q
      obtain rfl : gj = gk := Option.some.inj (c0.symm.trans hg)
      refine hm.congr fun i _ => ?_
      unfold mkF
      rw [if_pos (Nat.lt_succ_self _)]
    · have hne : gj ≠ gk := fun q' => q (h.2.1 j k gj c0 (by rw [q']; exact hg))
      refine (h2.far hf (by omega) (by omega)).congr fun i _ => ?_
      unfold mkF
      by_cases q2 : j < k
      · rw [if_pos q2, if_pos (by omega)]
      · rw [if_neg q2, if_neg (by omega)]⟩
def MarkedF : Nat → Nat → Int := fun j i => ((1 + 2 * j + i : Nat) : Int)
theorem rf_congr {w : World} {lo hi n : Nat} {A : Option Addr} {G : List Nat} {F F' : Nat → Nat → Int} (h : RF w lo hi A n G F) (he : ∀ j, j < n → ∀ i, i < 2 → F j i = F' j i) : RF w lo hi A n G F' :=
  ⟨h.1, h.2.1, fun j hj => by
    obtain ⟨g, gk, hA, a, b, c0, c, d, e, h1, h2⟩ := h.2.2 j hj
    exact ⟨g, gk, hA, a, b, c0, c, d, e, h1, h2.congr (he j hj)⟩⟩
end Go.Proofs.Ytjekmmekkfmplaa
