/-
  Contracts of spec.l1Cur.next, .pick, .one, .of, .any1 over this translation. Conditions: stated at each theorem.
-/
import Derived.Test.YtcnpbhbhklmifaaMark
import Derived.Laws.Bits64b
namespace Go.Proofs.Ytcnpbhbhklmifaa
open Go.RowKit Go.Sort

/-- Block g is the reader, which stands at k, over n bytes from A on, which lie below block B. -/
structure Cur (B : Nat) (A : Option Addr) (n c g k : Nat) (w : World) : Prop where
  code : w.cell? ⟨g, 0, none⟩ = some (.slice A n c)
  pos : w.cell? ⟨g, 1, none⟩ = some (.int .i64 k)
  seed : ∃ u : Nat, u < 18446744073709551616 ∧ w.cell? ⟨g, 2, none⟩ = some (.int .u64 u)
  free1 : w.frozen? ⟨g, 1, none⟩ = false
  free2 : w.frozen? ⟨g, 2, none⟩ = false
  row : ∀ j, j < n → ∃ (a : Addr) (b : Nat), A = some a ∧ a.block < B ∧ b < 256 ∧ w.cell? (a.add j) = some (.int .u8 b)
  old : B ≤ g
  lt : g < w.heap.size

theorem u64_wrap (x : Int) : ∃ u : Nat, u < 18446744073709551616 ∧ IntKind.u64.wrap x = u := by
  have h := IntKind.wrap_u64 x
  exact ⟨(IntKind.u64.wrap x).toNat, by rw [h]; omega, by rw [h]; omega⟩

theorem low8 (x : Int) : ∃ v : Nat, v < 256 ∧ wrap64 (bits BinOp.and IntKind.u64 (IntKind.u64.wrap x / 1099511627776) 255) = v := by
  obtain ⟨u, hu, he⟩ := u64_wrap x
  rw [he]
  have h := bits_and_u64_nat (u / 1099511627776) 255 (by omega) (by decide)
  rw [Int.natCast_ediv] at h
  rw [show ((255 : Nat) : Int) = 255 from rfl, show ((1099511627776 : Nat) : Int) = 1099511627776 from rfl] at h
  rw [h]
  have hm : (u / 1099511627776) &&& 255 = (u / 1099511627776) % 256 := Nat.and_two_pow_sub_one_eq_mod _ 8
  rw [hm]
  exact ⟨(u / 1099511627776) % 256, by omega, by unfold wrap64; omega⟩
theorem cur_step {B : Nat} {A : Option Addr} {n c g k : Nat} {w : World} (h : Cur B A n c g k w) (d1 d2 : Nat) (x : Int) (y : Int) (hy : y = (k : Int) + 1) :
    Cur B A n c g (k + 1) ((((w.drewN d1).setCell ⟨g, 1, none⟩ (.int .i64 y)).setCell ⟨g, 2, none⟩ (.int .u64 (IntKind.u64.wrap x))).drewN d2) ∧
    w.grownBy ((((w.drewN d1).setCell ⟨g, 1, none⟩ (.int .i64 y)).setCell ⟨g, 2, none⟩ (.int .u64 (IntKind.u64.wrap x))).drewN d2) (some g) := by
  subst hy
  obtain ⟨u, hu, he⟩ := u64_wrap x
  rw [he]
  obtain ⟨hc0, hc1, ⟨u0, hu0, hc2⟩, hf1, hf2, hrow, hold, hlt⟩ := h
  have e1 : ((w.drewN d1).setCell ⟨g, 1, none⟩ (.int .i64 ((k : Int) + 1))).cell? ⟨g, 1, none⟩ = some (.int .i64 ((k : Int) + 1)) := World.cell?_setCell_same (w.drewN d1) _ _ hc1
  have e2 : ((w.drewN d1).setCell ⟨g, 1, none⟩ (.int .i64 ((k : Int) + 1))).cell? ⟨g, 2, none⟩ = some (.int .u64 u0) := (World.cell?_setCell_other (w.drewN d1) _ _ _ (by simp)).trans hc2
  refine ⟨⟨?_, ?_, ⟨u, hu, ?_⟩, ?_, ?_, ?_, hold, ?_⟩, rfl, rfl, rfl, ?_, ?_⟩
  · exact (World.cell?_setCell_other _ _ _ _ (by simp)).trans ((World.cell?_setCell_other (w.drewN d1) _ _ _ (by simp)).trans hc0)
  · exact (World.cell?_setCell_other _ _ _ _ (by simp)).trans e1
  · exact World.cell?_setCell_same _ _ _ e2
  · exact (World.frozen?_setCell _ _ _ _).trans ((World.frozen?_setCell _ _ _ _).trans hf1)
  · exact (World.frozen?_setCell _ _ _ _).trans ((World.frozen?_setCell _ _ _ _).trans hf2)
  · intro j hj
    obtain ⟨a, b, ha, hb, h2, hc⟩ := hrow j hj
    have hblk : (a.add j).block = a.block := by unfold Addr.add; split <;> rfl
    refine ⟨a, b, ha, hb, h2, ?_⟩
    have hne : ∀ o, (⟨g, o, none⟩ : Addr) ≠ a.add j := fun o e => by have := congrArg Addr.block e; rw [hblk] at this; simp only at this; omega
    exact (World.cell?_setCell_other _ _ _ _ (hne 2)).trans ((World.cell?_setCell_other (w.drewN d1) _ _ _ (hne 1)).trans hc)
  · simpa [World.setCell] using hlt
  · simp [World.setCell]
  · intro i hi hne
    have h1 : i ≠ g := fun e => hne (by rw [e])
    exact (Below.heap_setCell _ ⟨g, 2, none⟩ _ i h1).trans (Below.heap_setCell (w.drewN d1) ⟨g, 1, none⟩ _ i h1)
/-- What next hands back. -/
def NextPost (B : Nat) (A : Option Addr) (n c g k m : Nat) (w : World) (e : Ending) (w' : World) : Prop :=
  ∃ v : Nat, v < m ∧ e = .returned (.int .i64 v) ∧ Cur B A n c g (k + 1) w' ∧ w.grownBy w' (some g)
set_option maxHeartbeats 800000 in
theorem next_any (B : Nat) (A : Option Addr) (n c g k : Nat) (w : World) (h : Cur B A n c g k w) (hk : k < 1000000) :
    Calls Try.prog 39 #[.pointer (some ⟨g, 0, none⟩)] w (NextPost B A n c g k 256 w) := by
  have HS := Lib.hid (fun d1 d2 x y hy => cur_step h d1 d2 x y hy)
  have HL := Lib.hid low8
  obtain ⟨hc0, hc1, ⟨u, hu, hc2⟩, hf1, hf2, hrow, hold, hlt⟩ := h
  by_cases hin : k < n
  · obtain ⟨a, b, rfl, ha, hb, hcell⟩ := hrow k hin
    go_enter Try.func39, Try.ntmps39
    go_wp2_with fail
    go_quiet (fail)
    go_wp2_with fail
    go_quiet (fail)
    go_wp2_with fail
    go_quiet (fail)
    go_wp2_with fail
    go_ret
    exact ⟨b, hb, rfl, HS.out _ _ _ _ rfl⟩
  · go_enter Try.func39, Try.ntmps39
    go_wp2_with fail
    go_quiet (fail)
    go_wp2_with fail
    go_quiet (fail)
    go_wp2_with fail
    go_ret
    obtain ⟨v, hv, he⟩ := HL.out (IntKind.u64.wrap (IntKind.u64.wrap (u * 6364136223846793005)) + 103131)
    refine ⟨v, hv, ?_, HS.out _ _ _ _ rfl⟩
    rw [← he]
    rfl
end Go.Proofs.Ytcnpbhbhklmifaa
