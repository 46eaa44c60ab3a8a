/-
  Two soundings by their ids: contracts of impl.soundingsById (a map), DoAgree, spec.DoAgree over this translation. Conditions: stated at each theorem.
-/
import Derived.Test.YtklbefdpfhidkaaDoorQf
import Derived.Maps.OwnSet
namespace Go.Proofs.YtklbefdpfhidkaaDoor
open Go.RowKit Go.Maps
set_option linter.unusedVariables false

/-- A sounding as a map's element reads. -/
def sndD (v : SD) : DataW Unit := .agg [.lit (.int .i64 v.id), .lit (.int .i64 v.x), .lit (.int .i64 v.y), .lit (.int .i64 v.dep), .lit (.int .i64 v.dbt)]
theorem sndD_inj {u v : SD} (h : sndD u = sndD v) : u = v := by
  unfold sndD at h
  simp only [DataW.agg.injEq, List.cons.injEq, DataW.lit.injEq, Lit.int.injEq, true_and, and_true] at h
  obtain ⟨h0, h1, h2, h3, h4⟩ := h
  cases u; cases v
  simp only at h0 h1 h2 h3 h4
  subst h0; subst h1; subst h2; subst h3; subst h4
  rfl
def sndE : Value → Option (DataW Unit × List MemPlace)
  | .agg cs => match cs.toList with
    | [.int .i64 a, .int .i64 b, .int .i64 c, .int .i64 d, .int .i64 e] => some (sndD ⟨a, b, c, d, e⟩, [])
    | _ => none
  | _ => none
theorem sndE_mk (v : SD) : sndE (.agg #[.int .i64 v.id, .int .i64 v.x, .int .i64 v.y, .int .i64 v.dep, .int .i64 v.dbt]) = some (sndD v, []) := rfl
theorem sndE_inv {x : Value} {z : DataW Unit × List MemPlace} (h : sndE x = some z) : ∃ v : SD, x = .agg #[.int .i64 v.id, .int .i64 v.x, .int .i64 v.y, .int .i64 v.dep, .int .i64 v.dbt] ∧ z = (sndD v, []) := by
  unfold sndE at h
  split at h
  · rename_i cs
    split at h
    · rename_i a b c d e hc
      refine ⟨⟨a, b, c, d, e⟩, ?_, (Option.some.inj h).symm⟩
      congr 1
      apply Array.toList_inj.1
      simpa using hc
    · cases h
  · cases h
/-- The map after k soundings. -/
def mpD (L : List SD) : Nat → DataW Unit
  | 0 => .map []
  | k + 1 => (mpD L k).put (.int .i64 (sdAt L k).id) (sndD (sdAt L k))
theorem mpD_isMap (L : List SD) (k : Nat) : IsMap (mpD L k) := by
  induction k with
  | zero => exact isMap_empty
  | succ k ih => exact ih.put _ _
theorem key_ne {a b : Int} (h : a ≠ b) : (Lit.int .i64 a) ≠ .int .i64 b := fun e => h (by injection e)
theorem mpD_has (L : List SD) (id : Int) (k : Nat) : has (mpD L k) (.int .i64 id) = decide (0 ≤ fdK L id k) := by
  induction k with
  | zero => rfl
  | succ k ih =>
    by_cases h : (sdAt L k).id = id
    · rw [mpD, h, has_put_same (mpD_isMap L k) (show WideAt.IsKeyLit (.int .i64 id) from trivial)]
      symm
      refine decide_eq_true ?_
      rw [fdK, if_pos h]
      split
      · assumption
      · omega
    · rw [mpD, has_put_other (key_ne (fun e => h e.symm)), ih]
      refine decide_eq_decide.2 ?_
      rw [fdK, if_neg h]
      split
      · exact Iff.rfl
      · omega
theorem mpD_at {L : List SD} (hg : Good8 L) (id : Int) (z : DataW Unit) (k : Nat) (hk : k ≤ L.length) (j : Nat) (hj : fdK L id k = j) : (mpD L k).atKey (.int .i64 id) z = sndD (sdAt L j) := by
  induction k with
  | zero => rw [fdK] at hj; omega
  | succ k ih =>
    by_cases h : (sdAt L k).id = id
    · have hn : fdK L id k = -1 := fdK_none (fun i hi => by have := hg.lt hi (by omega : k < L.length); omega)
      rw [fdK, hn, if_neg (by omega), if_pos h] at hj
      obtain rfl : k = j := by omega
      rw [mpD, h, atKey_put_same (mpD_isMap L k) (show WideAt.IsKeyLit (.int .i64 id) from trivial)]
    · rw [mpD, atKey_put_other (key_ne (fun e => h e.symm))]
      refine ih (by omega) ?_
      rw [fdK, if_neg h] at hj
      split at hj
      · exact hj
      · omega
theorem wf_of {a : Int} (h1 : -9223372036854775808 ≤ a) (h2 : a ≤ 9223372036854775807) : (Lit.int .i64 a).wf = true := by
  first | exact WalkArith.wf_i64 (by omega) | (simp [Lit.wf]; omega)
theorem lawI : Keyed Tryd.prog 3 := int_keyed Tryd.underlying3
theorem zeroS8 (w : World) : (zeroValue 27).run Tryd.prog w = .ok (.agg #[.int .i64 0, .int .i64 0, .int .i64 0, .int .i64 0, .int .i64 0]) w := by kernel_rfl
def ByPost (L : List SD) (w : World) (e : Ending) (w' : World) : Prop :=
  ∃ b, e = .returned (.map (some b)) ∧ w'.ownsMap Tryd.prog 3 sndE b L.length (mpD L L.length) ∧ Below w.heap.size w w'
set_option maxRecDepth 100000 in
set_option maxHeartbeats 1600000 in
theorem byId_impl (A : Option Addr) (n c : Nat) (L : List SD) (w : World) (hs : Sds w w.heap.size A n L) (hg : Good8 L) :
    Calls Tryd.prog 48 #[.slice A n c] w (ByPost L w) := by
  obtain rfl := hs.1
  have HS := Lib.hid hs
  have HG := Lib.hid hg
  have hm := hg.max
  have hmm := @run_makeMap Tryd.prog
  clear hs hg
  go_enter Tryd.func48, Tryd.ntmps48
  go_wp2_with fail
  clear hmm
  go_loopw [9] (fun i wr => ∃ k : Nat, k ≤ L.length ∧ i = .int .i64 k ∧ Hid (wr.ownsMap Tryd.prog 3 sndE w.heap.size k (mpD L k)) ∧ Hid (Below w.heap.size w wr)) (fun i _ => L.length - (intOf i).toNat)
  case atStart => exact ⟨0, Nat.zero_le _, rfl, Lib.hid (World.ownsMap_made _ _ _ _), Lib.hid ((Below.refl _ _).alloc (Nat.le_refl _) _)⟩
  case round =>
    obtain ⟨k, hk, rfl, hO, hB⟩ := hrel
    by_cases hlt : k < L.length
    · obtain ⟨b, o, v, rfl, hbl, hL, c0, c1, c2, c3, c4⟩ := (sds_at HS.out hB.out).2 k hlt
      have hid := (sdB_parts (HG.out.one k hlt)).1
      rw [sdAt_at hL] at hid
      have hkey : keyOf Tryd.prog 3 (.int .i64 v.id) = some (.int .i64 v.id) := keyOf_int_mk Tryd.underlying3 (wf_of (by omega) (by omega))
      have HK := Lib.hid (sdAt_at hL)
      have HO1 := Lib.hid (hO.out.alloc (.cells #[.int .i64 v.id, .int .i64 v.x, .int .i64 v.y, .int .i64 v.dep, .int .i64 v.dbt] 27))
      have HB1 := Lib.hid (hB.out.alloc hB.out.size (.cells #[.int .i64 v.id, .int .i64 v.x, .int .i64 v.y, .int .i64 v.dep, .int .i64 v.dbt] 27))
      clear hL hid
      go_wp2_with (at_mapUpdate; refine wpList_mapUpdate_own _ rfl _ _ _ 77 rfl 3 27 lawI Tryd.underlying77 _ w.heap.size k _ rfl HO1.out (by unfold maxLen; omega) _ _ _ rfl rfl hkey _ [] (sndE_mk v) ?_; intro w1 hown1 hgrow1)
      have HO2 : Hid (w1.ownsMap Tryd.prog 3 sndE w.heap.size (k + 1) (mpD L (k + 1))) := by unfold Hid; rw [mpD, HK.out]; exact hown1
      have HB2 := Lib.hid (HB1.out.grown hgrow1 HB1.out.size (fun j hj => by cases hj; exact Nat.le_refl _))
      clear hown1 hgrow1 c0 c1 c2 c3 c4 hkey
      go_roundw
      case rel => exact ⟨k + 1, by omega, by go_num, HO2, HB2⟩
      case measure => simp [intOf]; omega
    · obtain rfl : k = L.length := by omega
      have HR : Hid (ByPost L w (.returned (.map (some w.heap.size))) wr) := Lib.hid ⟨_, rfl, hO.out, hB.out⟩
      go_wp2_with fail
      go_ret
      exact HR
/-- A look-up, with the element's shape written out. -/
theorem wp_look_snd {P : Program} (w : World) {ops : Array Oper} {rest : List Oper} {o : Oper} {a : Act} {Q : Exit → Act → World → Prop} (hg : o.guard = none) (m x : Operand) (t : TypeId) (hop : o.op = Op.lookup t m x true)
    (k e : TypeId) (K : Keyed P k) (ht : P.underlying t = some (.map k e)) (hz : (zeroValue e).run P w = .ok (.agg #[.int .i64 0, .int .i64 0, .int .i64 0, .int .i64 0, .int .i64 0]) w) (b n : Nat) (D : DataW Unit)
    (hm : a.eval m = .map (some b)) (hown : w.ownsMap P k sndE b n D) (key : Value) (kl : Lit) (hx : a.eval x = key) (hkey : keyOf P k key = some kl)
    (hK : ∀ u : SD, Hid (D.atKey kl (sndD ⟨0, 0, 0, 0, 0⟩) = sndD u) → wpList P ops Q rest (a.put o.dst (.tuple #[.agg #[.int .i64 u.id, .int .i64 u.x, .int .i64 u.y, .int .i64 u.dep, .int .i64 u.dbt], .bool (has D kl)])) w) : wpList P ops Q (o :: rest) a w :=
  wpList_lookup_own_ok w hg m x t hop k e K ht sndE hz (sndD ⟨0, 0, 0, 0, 0⟩) [] (sndE_mk ⟨0, 0, 0, 0, 0⟩) b n D hm hown key kl hx hkey (fun v ps hv => by
    obtain ⟨u, rfl, hu⟩ := sndE_inv hv
    exact hK u (Lib.hid (congrArg Prod.fst hu)))
/-! ### DoAgree -/
def daOk (L : List SD) (a b : Int) : Bool := sdsB L && decide (0 ≤ fdS L a) && decide (0 ≤ fdS L b)
def daV (L : List SD) (a b : Int) : Bool := daOk L a b && agB (sdAt L (fdS L a).toNat) (sdAt L (fdS L b).toNat)
def DaPost (V K : Bool) (w : World) (e : Ending) (w' : World) : Prop := e = .returned (.tuple #[.bool V, .bool K]) ∧ Below w.heap.size w w'
theorem da_no {V K : Bool} {w w' : World} (h : V = false ∧ K = false) (hb : Below w.heap.size w w') : DaPost V K w (.returned (.tuple #[.bool false, .bool false])) w' := ⟨by rw [h.1, h.2], hb⟩
theorem da_yes {V K x : Bool} {w w' : World} (h : V = x ∧ K = true) (hb : Below w.heap.size w w') : DaPost V K w (.returned (.tuple #[.bool x, .bool true])) w' := ⟨by rw [h.1, h.2], hb⟩
theorem da_0 {L : List SD} {a b : Int} (h : daOk L a b = false) : daV L a b = false ∧ daOk L a b = false := ⟨by unfold daV; rw [h]; rfl, h⟩
theorem da_1 {L : List SD} {a b : Int} (h : sdsB L = false) : daV L a b = false ∧ daOk L a b = false := da_0 (by unfold daOk; rw [h]; rfl)
theorem da_2 {L : List SD} {a b : Int} (h : ¬ 0 ≤ fdS L a) : daV L a b = false ∧ daOk L a b = false := da_0 (by unfold daOk; rw [decide_eq_false h]; simp)
theorem da_3 {L : List SD} {a b : Int} (h : ¬ 0 ≤ fdS L b) : daV L a b = false ∧ daOk L a b = false := da_0 (by unfold daOk; rw [decide_eq_false h]; simp)
theorem da_4 {L : List SD} {a b : Int} {i k : Nat} (h : sdsB L = true) (ha : fdS L a = i) (hb : fdS L b = k) : daV L a b = agB (sdAt L i) (sdAt L k) ∧ daOk L a b = true := by
  have : daOk L a b = true := by unfold daOk; rw [h, ha, hb, decide_eq_true (by omega), decide_eq_true (by omega)]; rfl
  exact ⟨by unfold daV; rw [this, ha, hb]; rfl, this⟩
theorem fdS_lt {L : List SD} {a : Int} (h : 0 ≤ fdS L a) : ∃ k : Nat, k < L.length ∧ fdS L a = k := by
  rcases fdK_ex L a L.length with ⟨h1, _⟩ | ⟨k, hk, _, h1⟩
  · unfold fdS at h; omega
  · exact ⟨k, hk, h1⟩
theorem sds_two {w w1 : World} {u v : SD} {T : TypeId} (hb : Below (w.alloc (.cells #[.int .i64 u.id, .int .i64 u.x, .int .i64 u.y, .int .i64 u.dep, .int .i64 u.dbt, .int .i64 v.id, .int .i64 v.x, .int .i64 v.y, .int .i64 v.dep, .int .i64 v.dbt] T)).heap.size (w.alloc (.cells #[.int .i64 u.id, .int .i64 u.x, .int .i64 u.y, .int .i64 u.dep, .int .i64 u.dbt, .int .i64 v.id, .int .i64 v.x, .int .i64 v.y, .int .i64 v.dep, .int .i64 v.dbt] T)) w1) :
    Below w.heap.size w w1 ∧ Sds w1 w1.heap.size (some ⟨w.heap.size, 0, none⟩) 2 [u, v] := by
  obtain ⟨h1, h2⟩ := box1 hb
  refine ⟨h1, rfl, fun k hk => ?_⟩
  rcases k with _ | _ | k
  · exact ⟨_, 0, u, rfl, h2.1, rfl, h2.at_ 0 _ rfl, h2.at_ 1 _ rfl, h2.at_ 2 _ rfl, h2.at_ 3 _ rfl, h2.at_ 4 _ rfl⟩
  · exact ⟨_, 0, v, rfl, h2.1, rfl, h2.at_ 5 _ rfl, h2.at_ 6 _ rfl, h2.at_ 7 _ rfl, h2.at_ 8 _ rfl, h2.at_ 9 _ rfl⟩
  · omega
theorem ag_two (u v : SD) : agOk [u, v] = agB u v := rfl
set_option maxRecDepth 100000 in
set_option maxHeartbeats 3200000 in
theorem agree_impl (A : Option Addr) (n c : Nat) (L : List SD) (a b : Int) (w : World) (hs : Sds w w.heap.size A n L) (hm : n ≤ maxLen) (ha1 : -9223372036854775808 ≤ a) (ha2 : a ≤ 9223372036854775807) (hb1 : -9223372036854775808 ≤ b) (hb2 : b ≤ 9223372036854775807) :
    Calls Tryd.prog 19 #[.slice A n c, .int .i64 a, .int .i64 b] w (DaPost (daV L a b) (daOk L a b) w) := by
  obtain rfl := hs.1
  have HS := Lib.hid hs
  clear hs
  rcases ha : sdsB L with _ | _
  · have HA := Lib.hid ha
    clear ha
    go_enter Tryd.func19, Tryd.ntmps19
    go_wp2_with fail
    refine (sds_impl_v _ _ _ L _ HA.out _ HS.out hm).mono ?_
    rintro e w1 ⟨rfl, hb⟩
    have HB1 := Lib.hid hb
    clear hb
    go_wp2_with fail
    go_ret2
    exact da_no (da_1 HA.out) HB1.out
  have HA := Lib.hid ha
  have HG := Lib.hid (good8_of ha)
  have hka : keyOf Tryd.prog 3 (.int .i64 a) = some (.int .i64 a) := keyOf_int_mk Tryd.underlying3 (wf_of ha1 ha2)
  have hkb : keyOf Tryd.prog 3 (.int .i64 b) = some (.int .i64 b) := keyOf_int_mk Tryd.underlying3 (wf_of hb1 hb2)
  clear ha ha1 ha2 hb1 hb2
  by_cases hfa : 0 ≤ fdS L a
  rotate_left
  · have HP := Lib.hid (da_2 (b := b) hfa)
    have HHA : Hid (has (mpD L L.length) (.int .i64 a) = false) := by unfold Hid; rw [mpD_has]; exact decide_eq_false hfa
    obtain ⟨x, HHB⟩ : ∃ x, Hid (has (mpD L L.length) (.int .i64 b) = x) := ⟨_, Lib.hid rfl⟩
    clear hfa
    go_enter Tryd.func19, Tryd.ntmps19
    go_wp2_with fail
    refine (sds_impl_v _ _ _ L _ HA.out _ HS.out hm).mono ?_
    rintro e w1 ⟨rfl, hb⟩
    have HB1 := Lib.hid hb
    have HS1 := Lib.hid (sds_at HS.out hb)
    clear hb
    go_wp2_with fail
    refine (byId_impl _ _ _ L _ HS1.out HG.out).mono ?_
    rintro e W2 ⟨B0, rfl, hO, hb⟩
    have HO := Lib.hid hO
    have HB2 := Lib.hid (bthen HB1.out hb HB1.out.size)
    clear hb hO
    go_wp2_with (first | (at_lookup; refine wp_look_snd _ rfl _ _ 77 rfl 3 27 lawI Tryd.underlying77 (zeroS8 _) B0 L.length (mpD L L.length) rfl HO.out _ _ rfl hka ?_; intro u1 HU1; rw [HHA.out]) | (at_lookup; refine wp_look_snd _ rfl _ _ 77 rfl 3 27 lawI Tryd.underlying77 (zeroS8 _) B0 L.length (mpD L L.length) rfl (HO.out.alloc _) _ _ rfl hkb ?_; intro u2 HU2; rw [HHB.out]))
    have HB3 := Lib.hid (HB2.out.alloc HB2.out.size (.cells #[.int .i64 u1.id, .int .i64 u1.x, .int .i64 u1.y, .int .i64 u1.dep, .int .i64 u1.dbt] 27))
    have HB4 := Lib.hid (HB3.out.alloc HB3.out.size (.cells #[.int .i64 u2.id, .int .i64 u2.x, .int .i64 u2.y, .int .i64 u2.dep, .int .i64 u2.dbt] 27))
    go_ret2
    exact da_no HP.out HB4.out
  have HHA : Hid (has (mpD L L.length) (.int .i64 a) = true) := by unfold Hid; rw [mpD_has]; exact decide_eq_true hfa
  by_cases hfb : 0 ≤ fdS L b
  rotate_left
  · have HP := Lib.hid (da_3 (a := a) hfb)
    have HHB : Hid (has (mpD L L.length) (.int .i64 b) = false) := by unfold Hid; rw [mpD_has]; exact decide_eq_false hfb
    clear hfa hfb
    go_enter Tryd.func19, Tryd.ntmps19
    go_wp2_with fail
    refine (sds_impl_v _ _ _ L _ HA.out _ HS.out hm).mono ?_
    rintro e w1 ⟨rfl, hb⟩
    have HB1 := Lib.hid hb
    have HS1 := Lib.hid (sds_at HS.out hb)
    clear hb
    go_wp2_with fail
    refine (byId_impl _ _ _ L _ HS1.out HG.out).mono ?_
    rintro e W2 ⟨B0, rfl, hO, hb⟩
    have HO := Lib.hid hO
    have HB2 := Lib.hid (bthen HB1.out hb HB1.out.size)
    clear hb hO
    go_wp2_with (first | (at_lookup; refine wp_look_snd _ rfl _ _ 77 rfl 3 27 lawI Tryd.underlying77 (zeroS8 _) B0 L.length (mpD L L.length) rfl HO.out _ _ rfl hka ?_; intro u1 HU1; rw [HHA.out]) | (at_lookup; refine wp_look_snd _ rfl _ _ 77 rfl 3 27 lawI Tryd.underlying77 (zeroS8 _) B0 L.length (mpD L L.length) rfl (HO.out.alloc _) _ _ rfl hkb ?_; intro u2 HU2; rw [HHB.out]))
    have HB3 := Lib.hid (HB2.out.alloc HB2.out.size (.cells #[.int .i64 u1.id, .int .i64 u1.x, .int .i64 u1.y, .int .i64 u1.dep, .int .i64 u1.dbt] 27))
    have HB4 := Lib.hid (HB3.out.alloc HB3.out.size (.cells #[.int .i64 u2.id, .int .i64 u2.x, .int .i64 u2.y, .int .i64 u2.dep, .int .i64 u2.dbt] 27))
    go_ret2
    exact da_no HP.out HB4.out
  have HHB : Hid (has (mpD L L.length) (.int .i64 b) = true) := by unfold Hid; rw [mpD_has]; exact decide_eq_true hfb
  obtain ⟨i, hi, hai⟩ := fdS_lt hfa
  obtain ⟨k, hk, hbk⟩ := fdS_lt hfb
  have HP := Lib.hid (da_4 HA.out hai hbk)
  have HI := Lib.hid (mpD_at HG.out a (sndD ⟨0, 0, 0, 0, 0⟩) L.length (Nat.le_refl _) i hai)
  have HK := Lib.hid (mpD_at HG.out b (sndD ⟨0, 0, 0, 0, 0⟩) L.length (Nat.le_refl _) k hbk)
  have HSI := Lib.hid (sm_of (HG.out.one i hi))
  have HSK := Lib.hid (sm_of (HG.out.one k hk))
  clear hfa hfb hai hbk hi hk
  go_enter Tryd.func19, Tryd.ntmps19
  go_wp2_with fail
  refine (sds_impl_v _ _ _ L _ HA.out _ HS.out hm).mono ?_
  rintro e w1 ⟨rfl, hb⟩
  have HB1 := Lib.hid hb
  have HS1 := Lib.hid (sds_at HS.out hb)
  clear hb
  go_wp2_with fail
  refine (byId_impl _ _ _ L _ HS1.out HG.out).mono ?_
  rintro e W2 ⟨B0, rfl, hO, hb⟩
  have HO := Lib.hid hO
  have HB2 := Lib.hid (bthen HB1.out hb HB1.out.size)
  clear hb hO
  go_wp2_with (first | (at_lookup; refine wp_look_snd _ rfl _ _ 77 rfl 3 27 lawI Tryd.underlying77 (zeroS8 _) B0 L.length (mpD L L.length) rfl HO.out _ _ rfl hka ?_; intro u1 HU1; rw [HHA.out]) | (at_lookup; refine wp_look_snd _ rfl _ _ 77 rfl 3 27 lawI Tryd.underlying77 (zeroS8 _) B0 L.length (mpD L L.length) rfl (HO.out.alloc _) _ _ rfl hkb ?_; intro u2 HU2; rw [HHB.out]))
  obtain rfl : sdAt L i = u1 := sndD_inj (HI.out.symm.trans HU1.out)
  obtain rfl : sdAt L k = u2 := sndD_inj (HK.out.symm.trans HU2.out)
  obtain ⟨u, hu⟩ : ∃ u, u = sdAt L i := ⟨_, rfl⟩
  obtain ⟨v, hv⟩ : ∃ v, v = sdAt L k := ⟨_, rfl⟩
  rw [← hu] at HP HSI HU1
  rw [← hv] at HP HSK HU2
  rw [← hu, ← hv]
  clear HI HK hu hv
  obtain ⟨W4, hW4⟩ : ∃ W4, W4 = (W2.alloc (.cells #[.int .i64 u.id, .int .i64 u.x, .int .i64 u.y, .int .i64 u.dep, .int .i64 u.dbt] 27)).alloc (.cells #[.int .i64 v.id, .int .i64 v.x, .int .i64 v.y, .int .i64 v.dep, .int .i64 v.dbt] 27) := ⟨_, rfl⟩
  have hz : W2.heap.size + 1 + 1 = W4.heap.size := by rw [hW4]; simp
  have HB4 : Hid (Below w.heap.size w W4) := by
    unfold Hid
    rw [hW4]
    exact (HB2.out.alloc HB2.out.size _).alloc (HB2.out.alloc HB2.out.size _).size _
  rw [← hW4, hz]
  clear hW4 hz
  have HT := Lib.hid (sds_two (w := W4) (u := u) (v := v) (T := 27) (Below.refl _ _))
  refine (common_impl _ _ _ [u, v] _ HT.out.2 (by unfold maxLen; omega) (Nat.le_refl _) (by omega) (fun z hz => by
    rcases List.mem_cons.1 hz with rfl | hz
    · exact HSI.out
    · rcases List.mem_cons.1 hz with rfl | hz
      · exact HSK.out
      · cases hz)).mono ?_
  rintro e w5 ⟨rfl, hb⟩
  have HB5 := Lib.hid (bthen HB4.out (HT.out.1.trans (hb.mono HT.out.1.size)) HB4.out.size)
  clear hb
  go_wp2_with fail
  go_ret2
  exact da_yes HP.out HB5.out
set_option maxRecDepth 100000 in
set_option maxHeartbeats 3200000 in
theorem agree_spec (A : Option Addr) (n c : Nat) (L : List SD) (a b : Int) (w : World) (hs : Sds w w.heap.size A n L) (hm : n ≤ maxLen) :
    Calls Tryd.prog 21 #[.slice A n c, .int .i64 a, .int .i64 b] w (DaPost (daV L a b) (daOk L a b) w) := by
  obtain rfl := hs.1
  have HS := Lib.hid hs
  clear hs
  obtain ⟨fa, HFA⟩ : ∃ x, Hid (fdS L a = x) := ⟨_, Lib.hid rfl⟩
  obtain ⟨fb, HFB⟩ : ∃ x, Hid (fdS L b = x) := ⟨_, Lib.hid rfl⟩
  rcases ha : sdsB L with _ | _
  · have HA := Lib.hid ha
    clear ha
    go_enter Tryd.func21, Tryd.ntmps21
    go_wp2_with fail
    refine (find_spec_v _ _ _ L a fa HFA.out _ HS.out hm).mono ?_
    rintro e w0 ⟨rfl, rfl⟩
    go_wp2_with fail
    refine (find_spec_v _ _ _ L b fb HFB.out _ HS.out hm).mono ?_
    rintro e w0 ⟨rfl, rfl⟩
    go_wp2_with fail
    refine (good_spec_v _ _ _ L _ HA.out _ HS.out hm).mono ?_
    rintro e w1 ⟨rfl, hb⟩
    have HB1 := Lib.hid hb
    clear hb
    go_wp2_with fail
    go_ret2
    exact da_no (da_1 HA.out) HB1.out
  have HA := Lib.hid ha
  have HG := Lib.hid (good8_of ha)
  have h12 := (good8_of ha).max
  clear ha
  by_cases hfa : 0 ≤ fa
  rotate_left
  · have HP := Lib.hid (da_2 (L := L) (a := a) (b := b) (by rw [HFA.out]; exact hfa))
    have hd : decide (fa < 0) = true := decide_eq_true (by omega)
    clear hfa
    go_enter Tryd.func21, Tryd.ntmps21
    go_wp2_with fail
    refine (find_spec_v _ _ _ L a fa HFA.out _ HS.out hm).mono ?_
    rintro e w0 ⟨rfl, rfl⟩
    go_wp2_with fail
    refine (find_spec_v _ _ _ L b fb HFB.out _ HS.out hm).mono ?_
    rintro e w0 ⟨rfl, rfl⟩
    go_wp2_with fail
    refine (good_spec_v _ _ _ L _ HA.out _ HS.out hm).mono ?_
    rintro e w1 ⟨rfl, hb⟩
    have HB1 := Lib.hid hb
    clear hb
    go_wp2_with fail
    go_ret2
    exact da_no HP.out HB1.out
  have hd : decide (fa < 0) = false := decide_eq_false (by omega)
  by_cases hfb : 0 ≤ fb
  rotate_left
  · have HP := Lib.hid (da_3 (L := L) (a := a) (b := b) (by rw [HFB.out]; exact hfb))
    have hd2 : decide (fb < 0) = true := decide_eq_true (by omega)
    clear hfa hfb
    go_enter Tryd.func21, Tryd.ntmps21
    go_wp2_with fail
    refine (find_spec_v _ _ _ L a fa HFA.out _ HS.out hm).mono ?_
    rintro e w0 ⟨rfl, rfl⟩
    go_wp2_with fail
    refine (find_spec_v _ _ _ L b fb HFB.out _ HS.out hm).mono ?_
    rintro e w0 ⟨rfl, rfl⟩
    go_wp2_with fail
    refine (good_spec_v _ _ _ L _ HA.out _ HS.out hm).mono ?_
    rintro e w1 ⟨rfl, hb⟩
    have HB1 := Lib.hid hb
    clear hb
    go_wp2_with fail
    go_ret2
    exact da_no HP.out HB1.out
  have hd2 : decide (fb < 0) = false := decide_eq_false (by omega)
  obtain ⟨i, hi, hai⟩ := fdS_lt (L := L) (a := a) (by rw [HFA.out]; exact hfa)
  obtain ⟨k, hk, hbk⟩ := fdS_lt (L := L) (a := b) (by rw [HFB.out]; exact hfb)
  obtain rfl : (i : Int) = fa := hai.symm.trans HFA.out
  obtain rfl : (k : Int) = fb := hbk.symm.trans HFB.out
  have HP := Lib.hid (da_4 HA.out hai hbk)
  clear hfa hfb hai hbk
  go_enter Tryd.func21, Tryd.ntmps21
  go_wp2_with fail
  refine (find_spec_v _ _ _ L a i HFA.out _ HS.out hm).mono ?_
  rintro e w0 ⟨rfl, rfl⟩
  go_wp2_with fail
  refine (find_spec_v _ _ _ L b k HFB.out _ HS.out hm).mono ?_
  rintro e w0 ⟨rfl, rfl⟩
  go_wp2_with fail
  refine (good_spec_v _ _ _ L _ HA.out _ HS.out hm).mono ?_
  rintro e W1 ⟨rfl, hb⟩
  have HB1 := Lib.hid hb
  clear hb
  obtain ⟨b', o', u, rfl, hbl, hL, c0, c1, c2, c3, c4⟩ := (sds_at HS.out HB1.out).2 i hi
  obtain ⟨b2, o2, v, hA2, hbl2, hL2, d0, d1, d2, d3, d4⟩ := (sds_at HS.out HB1.out).2 k hk
  obtain ⟨rfl, rfl⟩ : b' = b2 ∧ o' = o2 := by injection hA2 with h; injection h with h h'; exact ⟨h, h'⟩
  have HU := Lib.hid (sm_at HG.out hL)
  have HV := Lib.hid (sm_at HG.out hL2)
  rw [sdAt_at hL, sdAt_at hL2] at HP
  have HAG : Hid (decide (max (lowS u) (lowS v) ≤ min (highS u) (highS v)) = agB u v) := Lib.hid rfl
  clear hL hL2 hA2
  go_wp2_with fail
  have lc0 := lcell (c0)
  have lc1 := lcell (c1)
  have lc2 := lcell (c2)
  have lc3 := lcell (c3)
  have lc4 := lcell (c4)
  have lc5 := lcell (d0)
  have lc6 := lcell (d1)
  have lc7 := lcell (d2)
  have lc8 := lcell (d3)
  have lc9 := lcell (d4)
  refine region_later (W := W1) (by kernel_rfl) (by kernel_rfl) (Below.refl _ _) ?_
  repeat (go_big_quiet_step (((first | (go_at_call 44; exact later_call (lowS_spec u HU.out _)) | (go_at_call 44; exact later_call (lowS_spec v HV.out _)) | (go_at_call 45; exact later_call (highS_spec u HU.out _)) | (go_at_call 45; exact later_call (highS_spec v HV.out _)) | (go_at_call 46; exact later_same (most_any _ _ _)) | (go_at_call 47; exact later_same (least_any _ _ _))))))
  refine wpQuiet_nil ?_
  intro W2 hW1
  have HL : Hid (Below W1.heap.size W1 W2) := by obtain ⟨x, rfl⟩ := hW1; exact Lib.hid x.below
  clear hW1 lc0 lc1 lc2 lc3 lc4 lc5 lc6 lc7 lc8 lc9
  rw [HAG.out]
  have HB2 := Lib.hid (bthen HB1.out HL.out HB1.out.size)
  clear c0 c1 c2 c3 c4 d0 d1 d2 d3 d4
  go_wp2_with fail
  go_ret2
  exact da_yes HP.out HB2.out
end Go.Proofs.YtklbefdpfhidkaaDoor
