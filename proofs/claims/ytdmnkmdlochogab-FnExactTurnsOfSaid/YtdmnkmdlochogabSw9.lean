/-
  The order in which lines are sailed, as ids: contracts of impl.SailedOrder, spec.SailedOrder over this translation. Conditions: stated at each theorem.
-/
import Derived.Test.YtdmnkmdlochogabSz
import Derived.Test.YtdmnkmdlochogabLw
import Derived.Test.YtdmnkmdlochogabTc
import Derived.Maps.AppendAt
import Derived.Deep.DeepCutAuto
namespace Go.Proofs.Ytdmnkmdlochogab
open Go.RowKit
set_option linter.unusedVariables false

theorem SdsN.grownN {W W' : World} {A : Option Addr} {n : Nat} {L : List LN} {row : Option Nat} (h : SdsN W W.heap.size A n L) (hg : W.grownBy W' row) (hr : ∀ g o, A = some ⟨g, o, none⟩ → some g ≠ row) : SdsN W' W'.heap.size A n L :=
  ⟨h.1, fun k hk => by
    obtain ⟨b, o, v, hA, hlt, hL, h5⟩ := h.2 k hk
    exact ⟨b, o, v, hA, Nat.lt_of_lt_of_le hlt hg.size, hL, at5_otherN h5 fun q _ _ => World.cell?_of_block (a := ⟨b, q, none⟩) (hg.block b hlt (hr b o hA))⟩⟩
def soK (L : List LN) : Bool := lnsB L
def soR (L : List LN) : List Int := if lnsB L then (ordS L).map LN.id else []
theorem soR_len (L : List LN) : (soR L).length ≤ 8 := by
  unfold soR
  split
  · rename_i h
    rw [List.length_map, ordS_len]
    exact (good9_of h).max
  · simp
def SoPost (L : List LN) (w : World) : Ending → World → Prop := IntsPost (soR L) (fun j => (soR L).getD j 0) (soK L) w
theorem so_no {L : List LN} {w w' : World} {v : Value} (h : lnsB L = false) (hc : Col w 3 1 v 0 (ivs []) w') : SoPost L w (.returned (.tuple #[v, .bool false])) w' := by
  have e : soR L = [] := by unfold soR; rw [h]; rfl
  unfold SoPost soK
  rw [e, h]
  exact ints_of_col hc rfl
theorem so_yes {L : List LN} {w w' : World} {v : Value} (h : lnsB L = true) (hc : Col w 3 1 v L.length (ivs (((ordS L).map LN.id).take L.length)) w') : SoPost L w (.returned (.tuple #[v, .bool true])) w' := by
  have e : soR L = (ordS L).map LN.id := by unfold soR; rw [h]; rfl
  unfold SoPost soK
  rw [e, h]
  have hl : ((ordS L).map LN.id).length = L.length := by rw [List.length_map, ordS_len]
  rw [← hl, List.take_length] at hc
  exact ints_of_col hc rfl
theorem ids_take {M : List LN} {k : Nat} {u : LN} (h : M[k]? = some u) : (M.map LN.id).take (k + 1) = (M.map LN.id).take k ++ [u.id] := by
  rw [List.take_add_one, List.getElem?_map, h]; rfl
set_option maxRecDepth 20000 in
set_option maxHeartbeats 3200000 in
theorem so_impl (A : Option Addr) (n c : Nat) (L : List LN) (w : World) (hs : SdsN w w.heap.size A n L) (hm : n ≤ maxLen) :
    Calls Try.prog 21 #[.slice A n c] w (SoPost L w) := by
  obtain rfl := hs.1
  have HS := Lib.hid hs
  clear hs
  obtain ⟨i0, hi, hz0, hz1, hz2⟩ := info_parts info3
  have HI := Lib.hid (And.intro hi (And.intro hz0 (And.intro hz1 hz2)))
  clear hi hz0 hz1 hz2
  rcases h1 : lnsB L with _ | _
  · have H1 := Lib.hid h1
    clear h1
    go_enter Try.func21, Try.ntmps21
    go_wp2_with fail
    refine (lns_impl_v A L.length c L _ H1.out _ HS.out hm).mono ?_
    rintro e w1 ⟨rfl, hb⟩
    have HP := Lib.hid (so_no H1.out (col_start 3 1 hb))
    clear hb
    go_wp2_with fail
    go_ret2
    exact HP.out
  have H1 := Lib.hid h1
  have HG := Lib.hid (good9_of h1)
  have h8 := HG.out.max
  clear h1
  go_enter Try.func21, Try.ntmps21
  go_wp2_with fail
  refine (lns_impl_v A L.length c L _ H1.out _ HS.out hm).mono ?_
  rintro e w1 ⟨rfl, hb⟩
  have HC1 : Hid (Col w 3 1 (.slice (some ⟨w1.heap.size, 0, none⟩) 0 0) 0 (ivs []) (w1.alloc (.cells #[] 3))) := Lib.hid (col_start 3 1 hb)
  clear hb
  obtain ⟨W2, hW2⟩ : ∃ W, W = w1.alloc (.cells #[] 3) := ⟨_, rfl⟩
  have HZ : Hid (w1.heap.size < W2.heap.size) := by rw [hW2]; exact Lib.hid (by simp)
  rw [← hW2] at HC1
  have HE := Lib.hid hW2
  clear hW2
  go_wp2_with fail
  rw [← HE.out]
  refine (sailed_impl A L.length c L HG.out _ (sds_atN HS.out HC1.out.2)).mono ?_
  rintro e w3 ⟨A2, c2, rfl, ho, hb⟩
  have HO := Lib.hid ho.sds
  have HLO : Hid (∀ g o, A2 = some ⟨g, o, none⟩ → 0 < L.length → w1.heap.size < g) := Lib.hid fun g o e h0 => by
    obtain ⟨_, h | ⟨g', e', _, hF⟩⟩ := ho
    · omega
    · rw [e] at e'; injection e' with e'; injection e' with e1 _ _; have := hF.low; have := HZ.out; omega
  have HC3 := Lib.hid (HC1.out.next hb)
  clear ho hb
  go_wp2_with fail
  go_loopw [4, 15] (fun s z wr => ∃ (k : Nat) (v : Value), k ≤ L.length ∧ z = .int .i64 k ∧ s = v ∧ Hid (Col w 3 1 v k (ivs (((ordS L).map LN.id).take k)) wr) ∧ Hid (SdsN wr wr.heap.size A2 L.length (ordS L)) ∧ Hid (∀ b g o, v.ownBlock = some b → A2 = some ⟨g, o, none⟩ → 0 < L.length → g ≠ b)) (fun _ z _ => L.length - (intOf z).toNat)
  case atStart => exact ⟨0, _, Nat.zero_le _, rfl, rfl, HC3, HO, Lib.hid fun b g o e1 e2 h0 => by have e3 : w1.heap.size = b := Option.some.inj e1; have := HLO.out g o e2 h0; omega⟩
  case round =>
    obtain ⟨k, v, hk, rfl, hv, hC, hO, hA⟩ := hrel
    have hv' := hv.symm
    clear hv
    subst hv'
    by_cases hlt : k < L.length
    · obtain ⟨b2, o2, u, rfl, hbl, hL, c0, c1, c2, c3, c4⟩ := hO.out.2 k hlt
      have HT := Lib.hid (ids_take hL)
      clear hL
      obtain ⟨W9, hW9⟩ : ∃ W, W = wr.alloc (.cells #[.int .i64 u.id, .int .i64 u.y, .int .i64 u.fr, .int .i64 u.to, .int .i64 u.sw] 34) := ⟨_, rfl⟩
      have HW : Hid (Below wr.heap.size wr W9 ∧ Has W9 wr.heap.size [.int .i64 u.id, .int .i64 u.y, .int .i64 u.fr, .int .i64 u.to, .int .i64 u.sw]) := by rw [hW9]; exact box1 (Below.refl _ _)
      have HR9 := Lib.hid (hC.out.next HW.out.1)
      have HO9 := Lib.hid (sds_atN hO.out HW.out.1)
      have a0 := HW.out.2.at_ 0 _ rfl
      have HE9 := Lib.hid hW9
      clear hW9
      go_upto_region 7 with fail
      rw [← HE9.out]
      clear c0 c1 c2 c3 c4
      go_wp2_with (at_builtin; go_loud (refine wpList_append_own_at _ rfl _ _ 36 rfl w.heap.size 3 i0 (.int .i64 0) 1 8 Try.underlying36 HI.out.1 HI.out.2.1 HI.out.2.2.1 HI.out.2.2.2 rfl (by decide) _ _ _ rfl (HR9.out.1.alloc _) ⟨W9.heap.size, 0, none⟩ 1 1 [.int .i64 u.id] rfl rfl (one_new9 _ _ _) (by simp [Value.oneCell']) (by unfold maxLen; omega) (by omega) (by have := HR9.out.2.size; simp; omega) ?_; intro v' w5 hown' hgrow _ hfr; have HN := Lib.hid (HR9.out.step hown' hgrow); have HGR := Lib.hid (And.intro hgrow hfr); clear hown' hgrow hfr))
      have HC2 : Hid (Col w 3 1 v' (k + 1) (ivs (((ordS L).map LN.id).take (k + 1))) w5) := by unfold Hid; rw [HT.out, ivs_snoc]; exact HN.out
      have HO2 : Hid (SdsN w5 w5.heap.size (some ⟨b2, o2, none⟩) L.length (ordS L)) := Lib.hid (((sds_atN HO9.out ((Below.refl _ _).alloc (Nat.le_refl _) _)).grownN HGR.out.1 (fun g o e e2 => hA.out g g o e2.symm e (by omega) rfl)))
      have HA2 : Hid (∀ b g o, v'.ownBlock = some b → some (⟨b2, o2, none⟩ : Addr) = some ⟨g, o, none⟩ → 0 < L.length → g ≠ b) := Lib.hid fun b g o e1 e2 h0 => by
        rcases HGR.out.2 with h | h
        · exact hA.out b g o (h.symm.trans e1) e2 h0
        · injection e2 with e2; injection e2 with e3 _ _
          have e4 := Option.some.inj (e1.symm.trans h)
          have h5 : b2 < W9.heap.size := Nat.lt_of_lt_of_le hbl HW.out.1.size
          intro e6
          rw [World.size_alloc] at e4
          omega
      clear HGR HN
      go_roundw
      case rel => exact ⟨k + 1, _, by omega, by go_num, rfl, HC2, HO2, HA2⟩
      case measure => simp [intOf]; omega
    · obtain rfl : k = L.length := by omega
      have HP := Lib.hid (so_yes H1.out hC.out)
      go_wp2_with fail
      go_ret2
      exact HP.out
set_option maxRecDepth 20000 in
set_option maxHeartbeats 3200000 in
theorem so_spec (A : Option Addr) (n c : Nat) (L : List LN) (w : World) (hs : SdsN w w.heap.size A n L) (hm : n ≤ maxLen) :
    Calls Try.prog 22 #[.slice A n c] w (SoPost L w) := by
  obtain rfl := hs.1
  have HS := Lib.hid hs
  clear hs
  obtain ⟨i0, hi, hz0, hz1, hz2⟩ := info_parts info3
  have HI := Lib.hid (And.intro hi (And.intro hz0 (And.intro hz1 hz2)))
  clear hi hz0 hz1 hz2
  have HC0 : Hid (Col w 3 1 (.slice (some ⟨w.heap.size, 0, none⟩) 0 0) 0 (ivs []) (w.alloc (.cells #[] 3))) := Lib.hid (col_start 3 1 (Below.refl _ _))
  have HS0 := Lib.hid (sds_atN HS.out HC0.out.2)
  rcases h1 : lnsB L with _ | _
  · have H1 := Lib.hid h1
    clear h1
    go_enter Try.func22, Try.ntmps22
    go_wp2_with fail
    refine (lgood_spec_v A L.length c L _ H1.out _ HS0.out hm).mono ?_
    rintro e w1 ⟨rfl, hb⟩
    have HP := Lib.hid (so_no H1.out (HC0.out.next hb))
    clear hb
    go_wp2_with fail
    go_ret2
    exact HP.out
  have H1 := Lib.hid h1
  have HG := Lib.hid (good9_of h1)
  have h8 := HG.out.max
  clear h1
  go_enter Try.func22, Try.ntmps22
  go_wp2_with fail
  refine (lgood_spec_v A L.length c L _ H1.out _ HS0.out hm).mono ?_
  rintro e w1 ⟨rfl, hb⟩
  have HC1 := Lib.hid (HC0.out.next hb)
  have HZ : Hid (w.heap.size < w1.heap.size) := Lib.hid (by have := hb.size; simp at this; omega)
  clear hb
  go_wp2_with fail
  refine (order_spec A L.length c L HG.out _ (sds_atN HS.out HC1.out.2) hm).mono ?_
  rintro e w3 ⟨A2, c2, rfl, ho, hb⟩
  have HO := Lib.hid ho.sds
  have HLO : Hid (∀ g o, A2 = some ⟨g, o, none⟩ → 0 < L.length → w.heap.size < g) := Lib.hid fun g o e h0 => by
    obtain ⟨_, h | ⟨g', e', _, hF⟩⟩ := ho
    · omega
    · rw [e] at e'; injection e' with e'; injection e' with e1 _ _; have := hF.low; have := HZ.out; omega
  have HC3 := Lib.hid (HC1.out.next hb)
  clear ho hb
  go_wp2_with fail
  go_loopw [4, 6] (fun s z wr => ∃ (k : Nat) (v : Value), k ≤ L.length ∧ z = .int .i64 k ∧ s = v ∧ Hid (Col w 3 1 v k (ivs (((ordS L).map LN.id).take k)) wr) ∧ Hid (SdsN wr wr.heap.size A2 L.length (ordS L)) ∧ Hid (∀ b g o, v.ownBlock = some b → A2 = some ⟨g, o, none⟩ → 0 < L.length → g ≠ b)) (fun _ z _ => L.length - (intOf z).toNat)
  case atStart => exact ⟨0, _, Nat.zero_le _, rfl, rfl, HC3, HO, Lib.hid fun b g o e1 e2 h0 => by have e3 : w.heap.size = b := Option.some.inj e1; have := HLO.out g o e2 h0; omega⟩
  case round =>
    obtain ⟨k, v, hk, rfl, hv, hC, hO, hA⟩ := hrel
    have hv' := hv.symm
    clear hv
    subst hv'
    by_cases hlt : k < L.length
    · obtain ⟨b2, o2, u, rfl, hbl, hL, c0, c1, c2, c3, c4⟩ := hO.out.2 k hlt
      have HT := Lib.hid (ids_take hL)
      clear hL
      obtain ⟨W9, rfl⟩ : ∃ W : World, W = wr := ⟨_, rfl⟩
      have HR9 := hC
      have HO9 := hO
      go_wp2_with (at_builtin; go_loud (refine wpList_append_own_at _ rfl _ _ 36 rfl w.heap.size 3 i0 (.int .i64 0) 1 8 Try.underlying36 HI.out.1 HI.out.2.1 HI.out.2.2.1 HI.out.2.2.2 rfl (by decide) _ _ _ rfl (HR9.out.1.alloc _) ⟨W9.heap.size, 0, none⟩ 1 1 [.int .i64 u.id] rfl rfl (one_new9 _ _ _) (by simp [Value.oneCell']) (by unfold maxLen; omega) (by omega) (by have := HR9.out.2.size; simp; omega) ?_; intro v' w5 hown' hgrow _ hfr; have HN := Lib.hid (HR9.out.step hown' hgrow); have HGR := Lib.hid (And.intro hgrow hfr); clear hown' hgrow hfr))
      have HC2 : Hid (Col w 3 1 v' (k + 1) (ivs (((ordS L).map LN.id).take (k + 1))) w5) := by unfold Hid; rw [HT.out, ivs_snoc]; exact HN.out
      have HO2 : Hid (SdsN w5 w5.heap.size (some ⟨b2, o2, none⟩) L.length (ordS L)) := Lib.hid (((sds_atN HO9.out ((Below.refl _ _).alloc (Nat.le_refl _) _)).grownN HGR.out.1 (fun g o e e2 => hA.out g g o e2.symm e (by omega) rfl)))
      have HA2 : Hid (∀ b g o, v'.ownBlock = some b → some (⟨b2, o2, none⟩ : Addr) = some ⟨g, o, none⟩ → 0 < L.length → g ≠ b) := Lib.hid fun b g o e1 e2 h0 => by
        rcases HGR.out.2 with h | h
        · exact hA.out b g o (h.symm.trans e1) e2 h0
        · injection e2 with e2; injection e2 with e3 _ _
          have e4 := Option.some.inj (e1.symm.trans h)
          have h5 : b2 < W9.heap.size := hbl
          intro e6
          rw [World.size_alloc] at e4
          omega
      clear HGR HN
      go_roundw
      case rel => exact ⟨k + 1, _, by omega, by go_num, rfl, HC2, HO2, HA2⟩
      case measure => simp [intOf]; omega
    · obtain rfl : k = L.length := by omega
      have HP := Lib.hid (so_yes H1.out hC.out)
      go_wp2_with fail
      go_ret2
      exact HP.out
end Go.Proofs.Ytdmnkmdlochogab
