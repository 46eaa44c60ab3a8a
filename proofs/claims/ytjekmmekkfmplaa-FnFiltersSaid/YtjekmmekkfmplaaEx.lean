/-
  Roughness and smooth parts: contracts of spec.l10Size, RoughnessOf, LongestSmooth over this translation. Conditions: stated at each theorem.
-/
import Derived.Test.YtjekmmekkfmplaaEw
import Derived.Test.YtjekmmekkfmplaaRed
namespace Go.Proofs.Ytjekmmekkfmplaa
open Go.RowKit
set_option linter.unusedVariables false

def Num2E (x : Int) (K : Bool) (w : World) (e : Ending) (w' : World) : Prop := e = .returned (.tuple #[.int .i64 x, .bool K]) ∧ Below w.heap.size w w'
theorem num2E_is {x a : Int} {K b : Bool} {w w' : World} (h : x = a ∧ K = b) (hb : Below w.heap.size w w') : Num2E x K w (.returned (.tuple #[.int .i64 a, .bool b])) w' := by obtain ⟨rfl, rfl⟩ := h; exact ⟨rfl, hb⟩
def Num3E (x y : Int) (K : Bool) (w : World) (e : Ending) (w' : World) : Prop := e = .returned (.tuple #[.int .i64 x, .int .i64 y, .bool K]) ∧ Below w.heap.size w w'
theorem num3E_is {x y a b : Int} {K c : Bool} {w w' : World} (h : x = a ∧ y = b ∧ K = c) (hb : Below w.heap.size w w') : Num3E x y K w (.returned (.tuple #[.int .i64 a, .int .i64 b, .bool c])) w' := by obtain ⟨rfl, rfl, rfl⟩ := h; exact ⟨rfl, hb⟩
theorem szE_v (n v : Int) (h : szE n = v) (w : World) (h1 : -1000000 ≤ n) (h2 : n ≤ 1000000) :
    Calls Try.prog 79 #[.int .i64 n] w fun e w' => e = .returned (.int .i64 v) ∧ w = w' := by
  have H : Hid (max n (-n) = v) := Lib.hid h
  clear h
  go_enter Try.func79, Try.ntmps79
  go_wp2_with fail
  refine (most_any _ _ _).mono ?_
  rintro e w' ⟨rfl, rfl⟩
  go_wp2_with fail
  go_ret
  exact ⟨ret_int H.out, rfl⟩
theorem szE_max {n v : Int} (h : szE n = v) : max n (-n) = v := h
/-! ### Roughness -/
def rhR (T : List Int) : Int := if trB T then rgS T (T.length - 1) else 0
theorem rh_no {T : List Int} (h : trB T = false) : rhR T = 0 ∧ trB T = false := ⟨by unfold rhR; rw [h]; rfl, h⟩
theorem rh_yes {T : List Int} {s : Int} (h : trB T = true) (hs : s = rgS T (T.length - 1)) : rhR T = s ∧ trB T = true := ⟨by unfold rhR; rw [h, if_pos rfl, hs], h⟩
set_option maxRecDepth 20000 in
set_option maxHeartbeats 3200000 in
theorem rough_spec (A : Option Addr) (C lo hi : Nat) (T : List Int) (w : World) (ht : IFun w lo hi A T.length (fun j => T.getD j 0)) (hh : hi ≤ w.heap.size) (hm : T.length ≤ 1048576) :
    Calls Try.prog 40 #[.slice A T.length C] w (Num2E (rhR T) (trB T) w) := by
  have HI := Lib.hid ht
  clear ht
  rcases h1 : trB T with _ | _
  · have H1 := Lib.hid h1
    have HP := Lib.hid (rh_no h1)
    clear h1
    go_enter Try.func40, Try.ntmps40
    go_wp2_with fail
    refine (goodE_spec _ _ _ _ _ _ H1.out _ HI.out hm).mono ?_
    rintro e w' ⟨rfl, rfl⟩
    go_wp2_with fail
    go_ret2
    exact num2E_is ⟨HP.out.1, rfl⟩ (Below.refl _ _)
  have H1 := Lib.hid h1
  have HT := Lib.hid (trk_of h1)
  have h30 := (trk_of h1).hi
  have h3 := (trk_of h1).lo
  clear h1
  go_enter Try.func40, Try.ntmps40
  go_wp2_with fail
  refine (goodE_spec _ _ _ _ _ _ H1.out _ HI.out hm).mono ?_
  rintro e w' ⟨rfl, rfl⟩
  go_wp2_with fail
  go_loopw [4, 5] (fun q i wr => ∃ (k : Nat) (s : Int), 1 ≤ k ∧ k ≤ T.length ∧ i = .int .i64 k ∧ q = .int .i64 s ∧ Hid (s = rgS T (k - 1)) ∧ (0 ≤ s ∧ s ≤ 21000 * ((k : Int) - 1)) ∧ Hid (Below w.heap.size w wr)) (fun _ i _ => T.length - (intOf i).toNat)
  case atStart => exact ⟨1, 0, Nat.le_refl _, by omega, rfl, rfl, Lib.hid rfl, by omega, Lib.hid (Below.refl _ _)⟩
  case round =>
    obtain ⟨k, s, hk1, hk, rfl, rfl, hS, hs, hB⟩ := hrel
    by_cases hlt : k < T.length
    · rcases k with _ | j
      · omega
      obtain ⟨g, rfl, hlo, hhi, c0, hf⟩ := (HI.out.on hB.out hh) (j + 1) hlt
      clear hf
      obtain ⟨g', e', hlo', hhi', d0, hf⟩ := (HI.out.on hB.out hh) j (by omega)
      clear hf
      obtain rfl : g = g' := by injection e' with h; injection h
      obtain ⟨x1, x2⟩ := HT.out.one (j + 1) hlt
      obtain ⟨y1, y2⟩ := HT.out.one j (by omega)
      obtain ⟨x, hx⟩ : ∃ x, T.getD (j + 1) 0 = x := ⟨_, rfl⟩
      obtain ⟨y, hy⟩ : ∃ y, T.getD j 0 = y := ⟨_, rfl⟩
      obtain ⟨v, hv⟩ : ∃ v, szE (x - y) = v := ⟨_, rfl⟩
      have hv2 : 0 ≤ v ∧ v ≤ 21000 := by
        rw [hx] at x1 x2
        rw [hy] at y1 y2
        unfold szE at hv
        omega
      dsimp only at c0 d0
      rw [hx] at c0 x1 x2
      rw [hy] at d0 y1 y2
      have HV := Lib.hid hv
      have HS2 : Hid (s + v = rgS T (j + 1 + 1 - 1)) := Lib.hid (by
        have h9 := hS.out
        rw [Nat.add_sub_cancel] at h9 ⊢
        rw [rgS, hx, hy, hv, h9])
      clear hx hy hv e'
      obtain ⟨W0, rfl⟩ : ∃ W : World, W = wr := ⟨_, rfl⟩
      go_wp2_with fail
      have lc0 := lcell (c0)
      have lc1 := lcell (d0)
      refine region_later (W := W0) (by kernel_rfl) (by kernel_rfl) (Below.refl _ _) ?_
      repeat (go_big_quiet_step (((go_at_call 79; with_reducible exact later_same (szE_v _ _ HV.out _ (by omega) (by omega))))))
      refine wpQuiet_nil ?_
      intro W1 hW1
      have HL : Hid (Below W0.heap.size W0 W1) := by obtain ⟨x, rfl⟩ := hW1; exact Lib.hid x.below
      clear hW1 lc0 lc1
      have HB2 := Lib.hid (bthen hB.out HL.out hB.out.size)
      clear c0 d0
      go_wp2_with fail
      go_roundw
      case rel => exact ⟨j + 1 + 1, s + v, by omega, by omega, by go_num, rfl, HS2, by omega, HB2⟩
      case measure => simp [intOf]; omega
    · obtain rfl : k = T.length := by omega
      have HP := Lib.hid (rh_yes H1.out hS.out)
      go_wp2_with fail
      go_ret2
      exact num2E_is ⟨HP.out.1, rfl⟩ hB.out
/-! ### Smooth parts -/
def lsA (T : List Int) (l : Int) : Int := if akB T l then ((smS T l T.length).at_ : Int) else 0
def lsM (T : List Int) (l : Int) : Int := if akB T l then ((smS T l T.length).most : Int) else 0
theorem ls_no {T : List Int} {l : Int} (h : akB T l = false) : lsA T l = 0 ∧ lsM T l = 0 ∧ akB T l = false := ⟨by unfold lsA; rw [h]; rfl, by unfold lsM; rw [h]; rfl, h⟩
theorem ls_yes {T : List Int} {l : Int} {a m f : Nat} (h : akB T l = true) (hs : smS T l T.length = ⟨a, m, f⟩) : lsA T l = a ∧ lsM T l = m ∧ akB T l = true := ⟨by unfold lsA; rw [h, if_pos rfl, hs], by unfold lsM; rw [h, if_pos rfl, hs], h⟩
theorem sm_more {T : List Int} {l : Int} {k a m f q : Nat} (h : smS T l k = ⟨a, m, f⟩) (hf : smF T l ⟨a, m, f⟩ k = q) (hq : m < k - q + 1) : smS T l (k + 1) = ⟨q, k - q + 1, q⟩ := by
  rw [smS, h, hf, if_pos hq]
theorem sm_less {T : List Int} {l : Int} {k a m f q : Nat} (h : smS T l k = ⟨a, m, f⟩) (hf : smF T l ⟨a, m, f⟩ k = q) (hq : ¬ m < k - q + 1) : smS T l (k + 1) = ⟨a, m, q⟩ := by
  rw [smS, h, hf, if_neg hq]
theorem smF_jump {T : List Int} {l : Int} {s : SmT} {j : Nat} (hd : l < szE (T.getD (j + 1) 0 - T.getD j 0)) : smF T l s (j + 1) = j + 1 := by
  unfold smF
  rw [if_pos ⟨by omega, by rw [Nat.add_sub_cancel]; exact hd⟩]
theorem smF_stay {T : List Int} {l : Int} {s : SmT} {j : Nat} (hd : ¬ l < szE (T.getD (j + 1) 0 - T.getD j 0)) : smF T l s (j + 1) = s.fr := by
  unfold smF
  rw [if_neg (by rw [Nat.add_sub_cancel]; exact fun h => hd h.2)]
theorem smF_zero {T : List Int} {l : Int} {s : SmT} : smF T l s 0 = s.fr := by
  unfold smF
  rw [if_neg (by omega)]
set_option maxRecDepth 20000 in
set_option maxHeartbeats 6400000 in
theorem smooth_spec (A : Option Addr) (C lo hi : Nat) (T : List Int) (l : Int) (w : World) (ht : IFun w lo hi A T.length (fun j => T.getD j 0)) (hh : hi ≤ w.heap.size) (hm : T.length ≤ 1048576) :
    Calls Try.prog 43 #[.slice A T.length C, .int .i64 l] w (Num3E (lsA T l) (lsM T l) (akB T l) w) := by
  have HI := Lib.hid ht
  clear ht
  rcases h1 : akB T l with _ | _
  · have H1 := Lib.hid h1
    have HP := Lib.hid (ls_no h1)
    clear h1
    go_enter Try.func43, Try.ntmps43
    go_wp2_with fail
    refine (askE_spec _ _ _ _ _ _ _ H1.out _ HI.out hm).mono ?_
    rintro e w' ⟨rfl, rfl⟩
    go_wp2_with fail
    go_ret3
    exact num3E_is ⟨HP.out.1, HP.out.2.1, by first | rfl | exact HP.out.2.2⟩ (Below.refl _ _)
  have H1 := Lib.hid h1
  have HT := Lib.hid (ak_is h1).1
  have h30 := (ak_is h1).1.hi
  have hl1 := (ak_is h1).2.1
  have hl2 := (ak_is h1).2.2
  clear h1
  go_enter Try.func43, Try.ntmps43
  go_wp2_with fail
  refine (askE_spec _ _ _ _ _ _ _ H1.out _ HI.out hm).mono ?_
  rintro e w' ⟨rfl, rfl⟩
  go_wp2_with fail
  go_loopw [7, 8, 9, 10] (fun x1 x2 x3 i wr => ∃ (k a m f : Nat), k ≤ T.length ∧ f ≤ k ∧ a + m ≤ k ∧ i = .int .i64 k ∧ x1 = .int .i64 a ∧ x2 = .int .i64 m ∧ x3 = .int .i64 f ∧ Hid (smS T l k = ⟨a, m, f⟩) ∧ Hid (Below w.heap.size w wr)) (fun _ _ _ i _ => T.length - (intOf i).toNat)
  case atStart => exact ⟨0, 0, 0, 0, Nat.zero_le _, Nat.le_refl _, Nat.le_refl _, rfl, rfl, rfl, rfl, Lib.hid rfl, Lib.hid (Below.refl _ _)⟩
  case round =>
    obtain ⟨k, a, m, f, hk, hfk, ham, rfl, rfl, rfl, rfl, hS, hB⟩ := hrel
    by_cases hlt : k < T.length
    · obtain ⟨W0, rfl⟩ : ∃ W : World, W = wr := ⟨_, rfl⟩
      rcases k with _ | j
      · obtain ⟨rfl, rfl, rfl⟩ : a = 0 ∧ m = 0 ∧ f = 0 := by omega
        have HF : Hid (smF T l ⟨0, 0, 0⟩ 0 = 0) := Lib.hid smF_zero
        have HS2 := Lib.hid (sm_more hS.out HF.out (by omega))
        go_wp2_with fail
        refine region_later (W := W0) (by kernel_rfl) (by kernel_rfl) (Below.refl _ _) ?_
        repeat (go_big_quiet_step ((fail)))
        refine wpQuiet_nil ?_
        intro W1 hW1
        have HL : Hid (Below W0.heap.size W0 W1) := by obtain ⟨x, rfl⟩ := hW1; exact Lib.hid x.below
        clear hW1
        have HB2 := Lib.hid (bthen hB.out HL.out hB.out.size)
        go_wp2_with fail
        go_roundw
        case rel => exact ⟨0 + 1, 0, 0 - 0 + 1, 0, by omega, by omega, by omega, by go_num, by go_num, by go_num, by go_num, HS2, HB2⟩
        case measure => simp [intOf]; omega
      obtain ⟨g, rfl, hlo, hhi, c0, hf⟩ := (HI.out.on hB.out hh) (j + 1) hlt
      clear hf
      obtain ⟨g', e', hlo', hhi', d0, hf⟩ := (HI.out.on hB.out hh) j (by omega)
      clear hf
      obtain rfl : g = g' := by injection e' with h; injection h
      obtain ⟨x1, x2⟩ := HT.out.one (j + 1) hlt
      obtain ⟨y1, y2⟩ := HT.out.one j (by omega)
      obtain ⟨x, hx⟩ : ∃ x, T.getD (j + 1) 0 = x := ⟨_, rfl⟩
      obtain ⟨y, hy⟩ : ∃ y, T.getD j 0 = y := ⟨_, rfl⟩
      obtain ⟨v, hv⟩ : ∃ v, szE (x - y) = v := ⟨_, rfl⟩
      have hv2 : 0 ≤ v ∧ v ≤ 21000 := by
        rw [hx] at x1 x2
        rw [hy] at y1 y2
        unfold szE at hv
        omega
      dsimp only at c0 d0
      rw [hx] at c0 x1 x2
      rw [hy] at d0 y1 y2
      have HV := Lib.hid hv
      by_cases hj : l < v
      · have HF : Hid (smF T l ⟨a, m, f⟩ (j + 1) = j + 1) := Lib.hid (smF_jump (by rw [hx, hy, hv]; exact hj))
        have hd : decide (v > l) = true := decide_eq_true hj
        clear hx hy hv e'
        by_cases hq : m < j + 1 - (j + 1) + 1
        · have HS2 := Lib.hid (sm_more hS.out HF.out hq)
          go_wp2_with fail
          have lc0 := lcell (c0)
          have lc1 := lcell (d0)
          refine region_later (W := W0) (by kernel_rfl) (by kernel_rfl) (Below.refl _ _) ?_
          repeat (go_big_quiet_step (((go_at_call 79; with_reducible exact later_same (szE_v _ _ HV.out _ (by omega) (by omega))))))
          refine wpQuiet_nil ?_
          intro W1 hW1
          have HL : Hid (Below W0.heap.size W0 W1) := by obtain ⟨x, rfl⟩ := hW1; exact Lib.hid x.below
          clear hW1 lc0 lc1
          have HB2 := Lib.hid (bthen hB.out HL.out hB.out.size)
          clear c0 d0
          go_wp2_with fail
          go_roundw
          case rel => exact ⟨j + 1 + 1, (j + 1), j + 1 - (j + 1) + 1, (j + 1), by omega, by omega, by omega, by go_num, by go_num, by go_num, by go_num, HS2, HB2⟩
          case measure => simp [intOf]; omega
        · have HS2 := Lib.hid (sm_less hS.out HF.out hq)
          go_wp2_with fail
          have lc0 := lcell (c0)
          have lc1 := lcell (d0)
          refine region_later (W := W0) (by kernel_rfl) (by kernel_rfl) (Below.refl _ _) ?_
          repeat (go_big_quiet_step (((go_at_call 79; with_reducible exact later_same (szE_v _ _ HV.out _ (by omega) (by omega))))))
          refine wpQuiet_nil ?_
          intro W1 hW1
          have HL : Hid (Below W0.heap.size W0 W1) := by obtain ⟨x, rfl⟩ := hW1; exact Lib.hid x.below
          clear hW1 lc0 lc1
          have HB2 := Lib.hid (bthen hB.out HL.out hB.out.size)
          clear c0 d0
          go_wp2_with fail
          go_roundw
          case rel => exact ⟨j + 1 + 1, a, m, (j + 1), by omega, by omega, by omega, by go_num, rfl, rfl, by go_num, HS2, HB2⟩
          case measure => simp [intOf]; omega
      · have HF : Hid (smF T l ⟨a, m, f⟩ (j + 1) = f) := Lib.hid (smF_stay (by rw [hx, hy, hv]; exact hj))
        have hd : decide (v > l) = false := decide_eq_false hj
        clear hx hy hv e'
        by_cases hq : m < j + 1 - f + 1
        · have HS2 := Lib.hid (sm_more hS.out HF.out hq)
          go_wp2_with fail
          have lc0 := lcell (c0)
          have lc1 := lcell (d0)
          refine region_later (W := W0) (by kernel_rfl) (by kernel_rfl) (Below.refl _ _) ?_
          repeat (go_big_quiet_step (((go_at_call 79; with_reducible exact later_same (szE_v _ _ HV.out _ (by omega) (by omega))))))
          refine wpQuiet_nil ?_
          intro W1 hW1
          have HL : Hid (Below W0.heap.size W0 W1) := by obtain ⟨x, rfl⟩ := hW1; exact Lib.hid x.below
          clear hW1 lc0 lc1
          have HB2 := Lib.hid (bthen hB.out HL.out hB.out.size)
          clear c0 d0
          go_wp2_with fail
          go_roundw
          case rel => exact ⟨j + 1 + 1, f, j + 1 - f + 1, f, by omega, by omega, by omega, by go_num, by go_num, by go_num, by go_num, HS2, HB2⟩
          case measure => simp [intOf]; omega
        · have HS2 := Lib.hid (sm_less hS.out HF.out hq)
          go_wp2_with fail
          have lc0 := lcell (c0)
          have lc1 := lcell (d0)
          refine region_later (W := W0) (by kernel_rfl) (by kernel_rfl) (Below.refl _ _) ?_
          repeat (go_big_quiet_step (((go_at_call 79; with_reducible exact later_same (szE_v _ _ HV.out _ (by omega) (by omega))))))
          refine wpQuiet_nil ?_
          intro W1 hW1
          have HL : Hid (Below W0.heap.size W0 W1) := by obtain ⟨x, rfl⟩ := hW1; exact Lib.hid x.below
          clear hW1 lc0 lc1
          have HB2 := Lib.hid (bthen hB.out HL.out hB.out.size)
          clear c0 d0
          go_wp2_with fail
          go_roundw
          case rel => exact ⟨j + 1 + 1, a, m, f, by omega, by omega, by omega, by go_num, rfl, rfl, by go_num, HS2, HB2⟩
          case measure => simp [intOf]; omega
    · obtain rfl : k = T.length := by omega
      have HP := Lib.hid (ls_yes H1.out hS.out)
      go_wp2_with fail
      go_ret3
      exact num3E_is ⟨HP.out.1, HP.out.2.1, by first | rfl | exact HP.out.2.2⟩ hB.out
end Go.Proofs.Ytjekmmekkfmplaa
