/-
  Layers as a chain of pointers: contract of impl.waterOf over this translation. Conditions: stated at each theorem.
-/
import Derived.Test.YtdmnkmdlochogabYp
import Derived.Test.YtdmnkmdlochogabPerm
namespace Go.Proofs.Ytdmnkmdlochogab
open Go.RowKit

/-- The pointer P leads through the layers l. -/
def Chain (w : World) : List (Int × Int) → Option Addr → Prop
  | [], P => P = none
  | p :: t, P => ∃ (g : Nat) (Q : Option Addr), P = some ⟨g, 0, none⟩ ∧ g < w.heap.size ∧ w.cell? ⟨g, 0, none⟩ = some (.int .i64 p.1) ∧ w.cell? ⟨g, 1, none⟩ = some (.int .i64 p.2) ∧ w.cell? ⟨g, 2, none⟩ = some (.pointer Q) ∧ Chain w t Q
theorem Chain.next {w w' : World} {l : List (Int × Int)} {P : Option Addr} (h : Chain w l P) (hb : Below w.heap.size w w') : Chain w' l P := by
  induction l generalizing P with
  | nil => exact h
  | cons p t ih =>
    obtain ⟨g, Q, hP, hg, c0, c1, c2, hC⟩ := h
    exact ⟨g, Q, hP, Nat.lt_of_lt_of_le hg hb.size, cell_next hb c0, cell_next hb c1, cell_next hb c2, ih hC⟩
theorem Spots.tail {w : World} {b o n : Nat} {p : Int × Int} {t : List (Int × Int)} (h : Spots w w.heap.size (some ⟨b, o, none⟩) (n + 1) (p :: t)) (A : Option Addr) (hA : A = some ⟨b, o + 2, none⟩ ∨ n = 0) : Spots w w.heap.size A n t := by
  refine ⟨by have := h.1; simpa using this, fun k hk => ?_⟩
  obtain ⟨b', o', x, y, hA', hlt, hl, h0, h1⟩ := h.2 (k + 1) (by omega)
  rcases hA with hA | hA
  · obtain ⟨rfl, rfl⟩ : b = b' ∧ o = o' := by injection hA' with h; injection h with h h'; exact ⟨h, h'⟩
    refine ⟨b, o + 2, x, y, hA, hlt, by simpa using hl, ?_, ?_⟩
    · rw [show o + 2 + k * 2 = o + (k + 1) * 2 by omega]; exact h0
    · rw [show o + 2 + k * 2 = o + (k + 1) * 2 by omega]; exact h1
  · omega
def WaterPost (l : List (Int × Int)) (w : World) (e : Ending) (w' : World) : Prop := ∃ P, e = .returned (.pointer P) ∧ Chain w' l P ∧ Below w.heap.size w w'
set_option maxRecDepth 20000 in
set_option maxHeartbeats 1600000 in
theorem water_any (l : List (Int × Int)) : ∀ (A : Option Addr) (n c : Nat) (w : World), Spots w w.heap.size A n l → n ≤ maxLen → n ≤ c → c ≤ maxLen →
    Calls Try.prog 108 #[.slice A n c] w (WaterPost l w) := by
  induction l with
  | nil =>
    intro A n c w hs hm hc hcm
    obtain rfl := hs.1
    go_enter Try.func108, Try.ntmps108
    go_wp2_with fail
    go_ret
    exact ⟨none, rfl, rfl, Below.refl _ _⟩
  | cons p t ih =>
    intro A n c w hs hm hc hcm
    have hn := hs.1
    obtain rfl : n = t.length + 1 := by rw [← hn]; rfl
    obtain ⟨b, o, x, y, rfl, hbl, hl, c0, c1⟩ := hs.2 0 (by omega)
    obtain rfl : p = (x, y) := by simpa using hl
    have HS := Lib.hid (fun A hA => Spots.tail hs A hA)
    have HI := Lib.hid ih
    unfold maxLen at hm hcm
    simp only [Nat.zero_mul, Nat.add_zero] at c0 c1
    clear hs hn hl ih
    go_enter Try.func108, Try.ntmps108
    go_wp2_with fail
    have lc0 := lcell c0
    have lc1 := lcell c1
    refine region_perm (W := w) 6 [0, 1, 2, 3, 4] [5] (by kernel_rfl) (by kernel_rfl) (Below.refl _ _) (fun d _ _ _ _ h => by cases d <;> exact h) ?_
    simp only [picks, List.getElem?_cons_succ, List.getElem?_cons_zero, List.drop_succ_cons, List.drop_zero]
    repeat (go_big_quiet_step (fail))
    refine wpQuiet_nil ?_
    intro W3 hW1
    have HL : Hid (Below w.heap.size w W3) := by obtain ⟨x, rfl⟩ := hW1; exact Lib.hid x.below
    clear hW1 lc0 lc1 c0 c1
    simp only [wpMem]
    refine wpOp_step rfl (fun K hK => ?_)
    rw [if_pos (by rfl)]
    go_simp
    have hA : (if c = 1 then (some ⟨b, o, none⟩ : Option Addr) else some ⟨b, o + 2, none⟩) = some ⟨b, o + 2, none⟩ ∨ t.length = 0 := by
      by_cases q : c = 1
      · exact .inr (by omega)
      · exact .inl (if_neg q)
    refine (HI.out _ _ _ _ (spots_more (HS.out _ hA) HL.out) (by unfold maxLen; omega) (by omega) (by unfold maxLen; omega)).mono ?_
    rintro e w4 ⟨P, rfl, hC, hb⟩
    have HB4 := Lib.hid (bthen HL.out hb HL.out.size)
    refine hK _ _ ⟨⟨⟨_, HB4.out⟩, rfl⟩, ?_⟩
    clear hK K hA
    have HC := Lib.hid hC
    clear hC hb HI HS
    obtain ⟨O3, hO3⟩ : ∃ O : Option Addr, O = (if c = 1 then some ⟨b, o, none⟩ else some ⟨b, o + 2, none⟩) := ⟨_, rfl⟩
    rw [← hO3]
    clear hO3
    go_wp2_with fail
    go_ret
    have hx := (box1 (cs := #[.int .i64 x, .int .i64 y, .pointer P]) (T := 176) (Below.refl _ _) (w := w4))
    exact ⟨_, rfl, ⟨w4.heap.size, P, rfl, hx.2.1, hx.2.at_ 0 _ rfl, hx.2.at_ 1 _ rfl, hx.2.at_ 2 _ rfl, HC.out.next hx.1⟩, bthen HB4.out hx.1 HB4.out.size⟩
end Go.Proofs.Ytdmnkmdlochogab
