/-
  Flattened tracks, the law's model: contract of spec.Flattened over this translation. Conditions: stated at the theorem.
-/
import Derived.Test.YtjekmmekkfmplaaEk
import Derived.Test.YtjekmmekkfmplaaEf
namespace Go.Proofs.Ytjekmmekkfmplaa
open Go.RowKit
set_option linter.unusedVariables false

def flL (T : List Int) (l : Int) : List Int := if akB T l then (flR l 30 T).1 else []
def flN (T : List Int) (l : Int) : Int := if akB T l then ((flR l 30 T).2 : Int) else 0
def FlPost (T : List Int) (l : Int) (w : World) (e : Ending) (w' : World) : Prop :=
  ∃ A c, e = .returned (.tuple #[.slice A (flL T l).length c, .int .i64 (flN T l), .bool (akB T l)]) ∧ IFun w' w.heap.size w'.heap.size A (flL T l).length (fun j => (flL T l).getD j 0) ∧ Below w.heap.size w w'
theorem fl_no {T : List Int} {l : Int} {w w' : World} {v : Value} (h : akB T l = false) (hc : Col w 3 1 v 0 [] w') : FlPost T l w (.returned (.tuple #[v, .int .i64 0, .bool false])) w' := by
  unfold FlPost flL flN
  rw [h]
  obtain ⟨A, c, rfl⟩ := own_slice hc.1
  exact ⟨A, c, rfl, fun k hk => absurd hk (by simp), hc.2⟩
theorem fl_yes {T U : List Int} {l : Int} {n : Nat} {w w' : World} {g C : Nat} (h : akB T l = true) (hf : flR l 30 T = (U, n)) (hi : IFun w' w.heap.size w'.heap.size (some ⟨g, 0, none⟩) U.length (fun j => U.getD j 0)) (hb : Below w.heap.size w w') : FlPost T l w (.returned (.tuple #[.slice (some ⟨g, 0, none⟩) U.length C, .int .i64 n, .bool true])) w' := by
  unfold FlPost flL flN
  rw [h, if_pos rfl, if_pos rfl, hf]
  exact ⟨_, C, rfl, hi, hb⟩
theorem fl_stop {T U : List Int} {l : Int} {n : Nat} (h : flR l 30 T = ((flR l (30 - n) U).1, (flR l (30 - n) U).2 + n)) (hq : n = 30 ∨ quB U l = true) : flR l 30 T = (U, n) := by
  rw [h]
  rcases hm : 30 - n with _ | f
  · show (U, 0 + n) = (U, n)
    rw [Nat.zero_add]
  · have hq2 : quB U l = true := by
      rcases hq with rfl | hq
      · omega
      · exact hq
    rw [flR, if_pos hq2, Nat.zero_add]
theorem fl_go {T U : List Int} {l : Int} {n : Nat} (h : flR l 30 T = ((flR l (30 - n) U).1, (flR l (30 - n) U).2 + n)) (hn : n < 30) (hq : quB U l = false) : flR l 30 T = ((flR l (30 - (n + 1)) (mfL U)).1, (flR l (30 - (n + 1)) (mfL U)).2 + (n + 1)) := by
  rw [h]
  obtain ⟨f, hf⟩ : ∃ f, 30 - n = f + 1 := ⟨30 - n - 1, by omega⟩
  rw [hf, show 30 - (n + 1) = f by omega, flR, hq]
  simp only [Bool.false_eq_true, if_false]
  rw [show (flR l f (mfL U)).2 + 1 + n = (flR l f (mfL U)).2 + (n + 1) by omega]
theorem ifun_up {w w' : World} {B g n : Nat} {f : Nat → Int} (h : IFun w B w.heap.size (some ⟨g, 0, none⟩) n f) (hb : Below w.heap.size w w') : IFun w' B w'.heap.size (some ⟨g, 0, none⟩) n f := (h.on hb (Nat.le_refl _)).wide (Nat.le_refl _) hb.size
set_option maxRecDepth 20000 in
set_option maxHeartbeats 6400000 in
theorem flat_spec (A : Option Addr) (C lo hi : Nat) (T : List Int) (l : Int) (w : World) (ht : IFun w lo hi A T.length (fun j => T.getD j 0)) (hh : hi ≤ w.heap.size) (hm : T.length ≤ 1048576) :
    Calls Try.prog 29 #[.slice A T.length C, .int .i64 l] w (FlPost T l w) := by
  rcases h1 : akB T l with _ | _
  · have HI := Lib.hid ht
    have H1 := Lib.hid h1
    have HP := Lib.hid (fl_no h1 (col_start 3 1 (Below.refl w.heap.size w)))
    clear h1 ht
    go_enter Try.func29, Try.ntmps29
    go_wp2_with fail
    refine (askE_spec _ _ _ _ _ _ _ H1.out _ HI.out hm).mono ?_
    rintro e w' ⟨rfl, rfl⟩
    go_wp2_with fail
    go_ret3
    exact HP.out
  have H1 := Lib.hid h1
  have HT := Lib.hid (ak_is h1)
  have h3 := (ak_is h1).1.lo
  obtain ⟨g, rfl, _⟩ := ht 0 (by omega)
  have HI := Lib.hid ht
  clear h1 ht
  go_enter Try.func29, Try.ntmps29
  go_wp2_with fail
  refine (askE_spec _ _ _ _ _ _ _ H1.out _ HI.out hm).mono ?_
  rintro e w' ⟨rfl, rfl⟩
  go_wp2_with fail
  refine (own_spec _ _ _ _ _ _ HI.out hh (by omega) hm).mono ?_
  rintro e w1 ⟨q, Cq, rfl, hc⟩
  have HB1 := Lib.hid hc.2
  have HO1 : Hid (IFun w1 w.heap.size w1.heap.size (some ⟨q, 0, none⟩) T.length (fun j => T.getD j 0)) := Lib.hid (ifun_of_own hc.1)
  clear hc
  go_wp2_with fail
  go_loopw [7, 8] (fun s i wr => ∃ (n q C : Nat) (U : List Int), n ≤ 30 ∧ i = .int .i64 n ∧ s = .slice (some ⟨q, 0, none⟩) U.length C ∧ Hid (flR l 30 T = ((flR l (30 - n) U).1, (flR l (30 - n) U).2 + n)) ∧ Hid (Trk U) ∧ Hid (IFun wr w.heap.size wr.heap.size (some ⟨q, 0, none⟩) U.length (fun j => U.getD j 0)) ∧ Hid (Below w.heap.size w wr)) (fun _ i _ => 30 - (intOf i).toNat)
  case atStart => exact ⟨0, q, Cq, T, Nat.zero_le _, rfl, rfl, Lib.hid rfl, Lib.hid HT.out.1, HO1, HB1⟩
  case round =>
    obtain ⟨n, q, C, U, hn, rfl, rfl, hR, hU, hO, hB⟩ := hrel
    by_cases hlt : n < 30
    · go_wp2_with fail
      refine (spikes_spec _ _ _ _ _ l _ hO.out (Nat.le_refl _) hU.out (by have := HT.out.2.1; omega) HT.out.2.2).mono ?_
      rintro e w2 ⟨g1, n1, C1, g2, m1, C2, rfl, htw⟩
      have hn1 := col_lenJ htw.up
      have hm1 := col_lenJ htw.dn
      have hl1 : (upS U l).length ≤ U.length - 2 := coL_len _ _ _
      have hl2 : (dnS U l).length ≤ U.length - 2 := coL_len _ _ _
      have hUh := hU.out.hi
      have hn30 : n1 ≤ 30 := by omega
      have hm30 : m1 ≤ 30 := by omega
      have HB2 := Lib.hid (bthen hB.out htw.up.2 hB.out.size)
      have HO2 := Lib.hid (ifun_up hO.out htw.up.2)
      rcases hq : quB U l with _ | _
      · have HR2 := Lib.hid (fl_go hR.out hlt hq)
        have hd : ((n1 : Int) + (m1 : Int) == 0) = false := by
          unfold quB at hq
          have := of_decide_eq_false hq
          exact beq_eq_false_iff_ne.2 (by omega)
        clear hq hn1 hm1 hl1 hl2 htw
        go_wp2_with fail
        refine (filter_spec _ _ _ _ _ _ HO2.out (Nat.le_refl _) hU.out).mono ?_
        rintro e w3 ⟨q3, C3, rfl, hf, hb⟩
        have HB3 := Lib.hid (bthen HB2.out hb HB2.out.size)
        have HO3 := Lib.hid (hf.wide (lo' := w.heap.size) HB2.out.size (Nat.le_refl _))
        have HU3 := Lib.hid (mf_trk hU.out)
        clear hf hb
        go_wp2_with fail
        go_roundw
        case rel => exact ⟨n + 1, q3, C3, mfL U, by omega, by go_num, rfl, HR2, HU3, HO3, HB3⟩
        case measure => simp [intOf]; omega
      · have HR2 := Lib.hid (fl_stop hR.out (.inr hq))
        have hd : n1 = 0 ∧ m1 = 0 := by
          unfold quB at hq
          have := of_decide_eq_true hq
          omega
        obtain ⟨rfl, rfl⟩ := hd
        clear hq hn1 hm1 hl1 hl2 htw
        go_wp2_with fail
        go_ret3
        exact fl_yes H1.out HR2.out HO2.out HB2.out
    · obtain rfl : n = 30 := by omega
      have HR2 := Lib.hid (fl_stop hR.out (.inl rfl))
      go_wp2_with fail
      go_ret3
      exact fl_yes H1.out HR2.out hO.out hB.out
end Go.Proofs.Ytjekmmekkfmplaa
