/-
  Contracts of laws.vInts, vHas, vSize, vSum over this translation. Conditions: stated at each theorem.
-/
import Derived.Test.YtjekmmekkfmplaaEp
import Derived.Test.YtjekmmekkfmplaaHs
namespace Go.Proofs.Ytjekmmekkfmplaa
open Go.RowKit
set_option linter.unusedVariables false

set_option maxHeartbeats 800000 in
theorem vI_same (A A' : Option Addr) (n c c' lo hi lo' hi' : Nat) (f : Nat → Int) (w : World) (h1 : IFun w lo hi A n f) (h2 : IFun w lo' hi' A' n f) (hm : n ≤ 1048576) :
    Calls Try.prog 19 #[.slice A n c, .slice A' n c'] w fun e w' => e = .returned (.bool true) ∧ ∃ k, w' = w.drewN k := by
  have H1 := Lib.hid h1
  have H2 := Lib.hid h2
  clear h1 h2
  go_enter Try.func19, Try.ntmps19
  go_wp2
  go_loopw [5] (fun i wr => ∃ k d : Nat, k ≤ n ∧ i = .int .i64 k ∧ wr = w.drewN d) (fun i _ => n - (intOf i).toNat)
  case atStart => exact ⟨0, 0, Nat.zero_le _, rfl, by rw [World.drewN_zero]⟩
  case round =>
    obtain ⟨k, d, hk, rfl, rfl⟩ := hrel
    by_cases hlt : k < n
    · obtain ⟨g, rfl, _, _, hc1, _⟩ := H1.out k hlt
      obtain ⟨g', rfl, _, _, hc2, _⟩ := H2.out k hlt
      go_wp2_with fail
      go_quiet (fail)
      go_wp2
      go_roundw
      case rel => exact ⟨k + 1, _, by omega, by go_num, rfl⟩
      case measure => simp [intOf]; omega
    · go_wp2
      go_ret
      exact ⟨rfl, _, rfl⟩
theorem vI_b (A A' : Option Addr) (n c c' lo hi lo' hi' : Nat) (f : Nat → Int) (w : World) (h1 : IFun w lo hi A n f) (h2 : IFun w lo' hi' A' n f) (hm : n ≤ 1048576) :
    Calls Try.prog 19 #[.slice A n c, .slice A' n c'] w fun e w' => e = .returned (.bool true) ∧ Below w.heap.size w w' :=
  (vI_same A A' n c c' lo hi lo' hi' f w h1 h2 hm).mono fun _ w' h => ⟨h.1, by obtain ⟨_, k, rfl⟩ := h; exact bdrewN (Below.refl _ _) k⟩
set_option maxHeartbeats 800000 in
theorem vHas_v (A : Option Addr) (n c lo hi : Nat) (L : List Int) (x : Int) (r : Bool) (hr : decide (x ∈ L) = r) (w : World) (h1 : IFun w lo hi A n (fun j => L.getD j 0)) (hn : L.length = n) (hm : n ≤ 1048576) :
    Calls Try.prog 26 #[.slice A n c, .int .i64 x] w fun e w' => e = .returned (.bool r) ∧ w = w' := by
  have H1 := Lib.hid h1
  have HX := Lib.hid hr
  subst hn
  clear h1 hr
  go_enter Try.func26, Try.ntmps26
  go_wp2_with fail
  go_loop [5] (fun i => ∃ k : Nat, k ≤ L.length ∧ i = .int .i64 k ∧ Hid (∀ p, p < k → L.getD p 0 ≠ x)) (fun i => L.length - (intOf i).toNat)
  case atStart => exact ⟨0, Nat.zero_le _, rfl, Lib.hid fun p hp => absurd hp (by omega)⟩
  case round =>
    obtain ⟨k, hk, rfl, hN⟩ := hrel
    by_cases hlt : k < L.length
    · obtain ⟨g, rfl, _, _, hc1, _⟩ := H1.out k hlt
      obtain ⟨y, hy⟩ : ∃ y, L.getD k 0 = y := ⟨_, rfl⟩
      dsimp only at hc1
      rw [hy] at hc1
      by_cases he : y = x
      · have hd : (y == x) = true := by simpa using he
        have HR : Hid (true = r) := by
          unfold Hid
          rw [← HX.out]
          refine (decide_eq_true ?_).symm
          rw [← he, ← hy, List.getD_eq_getElem?_getD, List.getElem?_eq_getElem hlt]
          exact List.getElem_mem hlt
        clear he hy
        go_wp2_with fail
        go_ret
        exact ⟨ret_bool HR.out, rfl⟩
      · have hd : (y == x) = false := beq_eq_false_iff_ne.2 he
        have HN2 : Hid (∀ p, p < k + 1 → L.getD p 0 ≠ x) := Lib.hid fun p hp => by
          rcases Nat.lt_or_ge p k with h | h
          · exact hN.out p h
          · obtain rfl : p = k := by omega
            rw [hy]; exact he
        clear hy he
        go_wp2_with fail
        go_round
        case rel => exact ⟨k + 1, by omega, by go_num, HN2⟩
        case measure => simp [intOf]; omega
    · obtain rfl : k = L.length := by omega
      have HR : Hid (false = r) := by
        unfold Hid
        rw [← HX.out]
        refine (decide_eq_false fun hmem => ?_).symm
        obtain ⟨j, hj⟩ := List.mem_iff_getElem?.1 hmem
        exact hN.out j (List.getElem?_eq_some_iff.1 hj).1 (by rw [List.getD_eq_getElem?_getD, hj]; rfl)
      go_wp2_with fail
      go_ret
      exact ⟨ret_bool HR.out, rfl⟩
theorem vSize_v (n v : Int) (h : szE n = v) (w : World) (h1 : -1000000 ≤ n) (h2 : n ≤ 1000000) :
    Calls Try.prog 44 #[.int .i64 n] w fun e w' => e = .returned (.int .i64 v) ∧ w = w' := by
  unfold szE at h
  by_cases hneg : n < 0
  · have H : Hid (-n = v) := by unfold Hid; omega
    clear h
    go_enter Try.func44, Try.ntmps44
    go_wp2_with fail
    go_ret
    exact ⟨ret_int H.out, rfl⟩
  · have H : Hid (n = v) := by unfold Hid; omega
    clear h
    go_enter Try.func44, Try.ntmps44
    go_wp2_with fail
    go_ret
    exact ⟨ret_int H.out, rfl⟩
theorem suS_bd {K : List Int} (h : keB K K.length = true) : ∀ {k : Nat}, k ≤ K.length → 0 ≤ suS K k ∧ suS K k ≤ k
  | 0, _ => by simp [suS]
  | k + 1, hk => by
    have ih := suS_bd h (k := k) (by omega)
    have h1 : inB (K.getD k 0) 0 1 = true := by
      rcases hb : inB (K.getD k 0) 0 1 with _ | _
      · rw [keB_bad (by omega) hb] at h; cases h
      · rfl
    have h2 := inB_yes h1
    rw [suS]
    omega
set_option maxHeartbeats 800000 in
theorem vSum_v (A : Option Addr) (C lo hi : Nat) (K : List Int) (s : Int) (hs : suS K K.length = s) (hk : keB K K.length = true) (w : World) (h : IFun w lo hi A K.length (fun j => K.getD j 0)) (hm : K.length ≤ 1000) :
    Calls Try.prog 25 #[.slice A K.length C] w fun e w' => e = .returned (.int .i64 s) ∧ w = w' := by
  have HI := Lib.hid h
  have HS := Lib.hid hs
  have HB := Lib.hid (fun k (q : k ≤ K.length) => suS_bd hk q)
  clear h hs hk
  go_enter Try.func25, Try.ntmps25
  go_wp2_with fail
  go_loopw [3, 4] (fun q i wr => ∃ (k : Nat) (t : Int), k ≤ K.length ∧ i = .int .i64 k ∧ q = .int .i64 t ∧ Hid (t = suS K k) ∧ Hid (w = wr)) (fun _ i _ => K.length - (intOf i).toNat)
  case atStart => exact ⟨0, 0, Nat.zero_le _, rfl, rfl, Lib.hid rfl, Lib.hid rfl⟩
  case round =>
    obtain ⟨k, t, hk, rfl, rfl, hT, hW⟩ := hrel
    obtain rfl := hW.out
    by_cases hlt : k < K.length
    · obtain ⟨g, rfl, _, _, c0, hf⟩ := HI.out k hlt
      clear hf
      obtain ⟨y, hy⟩ : ∃ y, K.getD k 0 = y := ⟨_, rfl⟩
      dsimp only at c0
      rw [hy] at c0
      have b1 := HB.out k hk
      have b2 := HB.out (k + 1) hlt
      rw [← hT.out] at b1
      rw [suS, hy, ← hT.out] at b2
      have HT2 : Hid (t + y = suS K (k + 1)) := by unfold Hid; rw [suS, hy, ← hT.out]
      clear hy
      go_wp2_with fail
      go_roundw
      case rel => exact ⟨k + 1, t + y, by omega, by go_num, rfl, HT2, by first | exact hW | exact Lib.hid trivial | exact Lib.hid rfl⟩
      case measure => simp [intOf]; omega
    · obtain rfl : k = K.length := by omega
      have HR : Hid (t = s) := by unfold Hid; rw [hT.out, HS.out]
      go_wp2_with fail
      go_ret
      exact ⟨ret_int HR.out, rfl⟩
end Go.Proofs.Ytjekmmekkfmplaa
