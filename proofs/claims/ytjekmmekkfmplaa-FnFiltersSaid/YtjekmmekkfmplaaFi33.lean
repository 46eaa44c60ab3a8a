/-
  A piece of laws.FnFilters, from region 33 on. Conditions: stated at the theorem.
-/
import Derived.Test.YtjekmmekkfmplaaEe
import Derived.Test.YtjekmmekkfmplaaEx
import Derived.Test.YtjekmmekkfmplaaEz
import Derived.Test.YtjekmmekkfmplaaVi
import Derived.Test.YtjekmmekkfmplaaVb
import Derived.Test.YtjekmmekkfmplaaOc
import Derived.Deep.DeepCutAuto
import Derived.Test.YtjekmmekkfmplaaEi
import Derived.Test.YtjekmmekkfmplaaEm
import Derived.Test.YtjekmmekkfmplaaEs
namespace Go.Proofs.Ytjekmmekkfmplaa
open Go.Joins Go.ChangeShapes Go.WideShapes Go.ChangeAt Go.RowKit Go.Deep
set_option linter.unusedVariables false

/-- The code from the region with a number on. -/
def restAt (i : Nat) : Code → Option Code
  | .seq (.region j ops d) b => if j = i then some (.seq (.region j ops d) b) else restAt i b
  | .seq a b => match restAt i a with | some c => some c | none => restAt i b
  | .cond _ a b => match restAt i a with | some c => some c | none => restAt i b
  | _ => none
/-! ### Plain facts -/
theorem ifun_at {w W : World} {A : Option Addr} {n : Nat} {f : Nat → Int} (h : IFun w 0 w.heap.size A n f) (hb : Below w.heap.size w W) : IFun W 0 W.heap.size A n f := (h.on hb (Nat.le_refl _)).wide (Nat.le_refl _) hb.size
theorem ws_sym {T U : List Int} (h : wsK T U = true) : wsK U T = true := by
  unfold wsK at h ⊢
  simp only [Bool.and_eq_true, decide_eq_true_eq] at h ⊢
  exact ⟨⟨h.1.2, h.1.1⟩, h.2.symm⟩
theorem ws_in {T U : List Int} {k : Nat} (h : wsK T U = true) (hk : k < (wsR T U).length) : decide ((wsR T U).getD k 0 ∈ wsR U T) = false := by
  refine decide_eq_false fun h2 => ?_
  have e1 := (ws_yes h).1
  have e2 := (ws_yes (ws_sym h)).1
  have hm : (wsR T U).getD k 0 ∈ wsR T U := by
    rw [List.getD_eq_getElem?_getD, List.getElem?_eq_getElem hk]
    exact List.getElem_mem hk
  rw [e2] at h2
  generalize (wsR T U).getD k 0 = y at hm h2
  rw [e1] at hm
  exact ws_apart hm h2
theorem sf_le {T : List Int} {r : Int} {k : Nat} (h : k < (sfR T r).length) : k < T.length ∧ (sfR T r).getD k 0 ≤ T.getD k 0 := by
  rcases hk : sfK T r with _ | _
  · exfalso
    unfold sfR at h
    rw [hk] at h
    simp at h
  · have e : sfR T r = shL T r.toNat T.length := by unfold sfR; rw [hk, if_pos rfl]
    rw [e] at h ⊢
    rw [shL_len] at h
    exact ⟨h, sh_le T _ h⟩
theorem ls_in {T : List Int} {l : Int} (h : akB T l = true) : ∃ a m : Nat, lsA T l = a ∧ lsM T l = m ∧ a + m ≤ T.length ∧ ∀ i, a < i → i < a + m → szE (T.getD i 0 - T.getD (i - 1) 0) ≤ l := by
  have hs := smS_ok T l T.length
  rcases he : smS T l T.length with ⟨a, m, f⟩
  rw [he] at hs
  obtain ⟨h1, h2, _⟩ := ls_yes h he
  exact ⟨a, m, h1, h2, hs.sum, hs.best⟩
set_option maxRecDepth 20000 in
set_option maxHeartbeats 12800000 in
theorem tailF33 {c0 : Code} (hc0 : Try.f4.body.bind (restAt 33) = some c0) (A : Option Addr) (n c : Nat) (w W0 : World) (hr : CodeRow w.heap.size A n w) (hb0 : Below w.heap.size w W0) (u1 u2 u3 u4 u5 u6 u7 u8 u9 u10 u11 u12 u13 u14 u15 u16 u17 u18 u19 u20 u21 u22 u23 u24 u25 u26 u27 u28 u29 u30 u31 u32 u33 u34 u35 u36 u37 u38 u39 u40 u41 u42 u43 u44 u45 u46 u47 u48 u49 u50 u51 u52 u53 u54 u55 u56 u57 u58 u59 u60 u61 u62 u63 u64 u65 u66 u67 u68 u69 u70 u71 u72 u73 u74 u75 u76 u77 u78 u79 u80 u81 u82 u83 u84 u85 u86 u87 u88 u89 u90 u91 u92 u93 u94 u95 u96 u97 u98 u99 u100 u101 u102 u103 u104 u105 u106 u107 u108 u109 u110 u111 u112 u113 u114 u115 u116 u117 u118 u119 u120 u121 u122 u123 u124 u125 u126 u127 u128 u129 u130 u131 u132 u133 u134 u135 u136 u137 u138 u139 u140 u141 u142 u143 u144 u145 u146 u147 u148 u149 u150 u151 u152 u153 u154 u155 u156 u157 u158 u159 u160 u161 u162 u163 u164 u165 u166 u167 u168 u169 u170 u171 u172 u173 u174 u175 u176 u177 u178 u179 u180 u181 u182 u183 u184 u185 u186 u187 u188 u189 u190 u191 u192 u193 u194 u195 u196 u197 u198 u199 u200 u201 u202 u203 u204 u205 u206 u207 u208 u209 u210 u211 u212 u213 u214 u215 u216 u217 u218 u219 u220 u221 u222 u223 u224 u225 : Value) :
    c0.wp Try.prog (bodyPost Try.prog Try.f4 fun e w' => e = .returned (.bool true) ∧ Below w.heap.size w w') { tmps := #[.slice A n c, u1, u2, u3, u4, u5, u6, u7, u8, u9, u10, u11, u12, u13, u14, u15, u16, u17, u18, u19, u20, u21, u22, u23, u24, u25, u26, u27, u28, u29, u30, u31, u32, u33, u34, u35, u36, u37, u38, u39, u40, u41, u42, u43, u44, u45, u46, u47, u48, u49, u50, u51, u52, u53, u54, u55, u56, u57, u58, u59, u60, u61, u62, u63, u64, u65, u66, u67, u68, u69, u70, u71, u72, u73, u74, u75, u76, u77, u78, u79, u80, u81, u82, u83, u84, u85, u86, u87, u88, u89, u90, u91, u92, u93, u94, u95, u96, u97, u98, u99, u100, u101, u102, u103, u104, u105, u106, u107, u108, u109, u110, u111, u112, u113, u114, u115, u116, u117, u118, u119, u120, u121, u122, u123, u124, u125, u126, u127, u128, u129, u130, u131, u132, u133, u134, u135, u136, u137, u138, u139, u140, u141, u142, u143, u144, u145, u146, u147, u148, u149, u150, u151, u152, u153, u154, u155, u156, u157, u158, u159, u160, u161, u162, u163, u164, u165, u166, u167, u168, u169, u170, u171, u172, u173, u174, u175, u176, u177, u178, u179, u180, u181, u182, u183, u184, u185, u186, u187, u188, u189, u190, u191, u192, u193, u194, u195, u196, u197, u198, u199, u200, u201, u202, u203, u204, u205, u206, u207, u208, u209, u210, u211, u212, u213, u214, u215, u216, u217, u218, u219, u220, u221, u222, u223, u224, u225], defers := [] } W0 := by
  cases (show Try.f4.body.bind (restAt 33) = some _ from rfl).symm.trans hc0
  have HRW := Lib.hid hr
  have HB0 := Lib.hid hb0
  clear hc0 hb0 hr
  go_wp2_with fail
  refine (drawE_where A n c _ (HRW.out.below HB0.out HB0.out.size)).mono ?_
  rintro e w1 ⟨P, gp, cp, Q, gq, cq, rfl, ⟨hlP, hiP⟩, ⟨hlQ, hiQ⟩, hb⟩
  have HP1 : Hid (IFun w1 0 w1.heap.size (some ⟨gp, 0, none⟩) P.length (fun j => P.getD j 0)) := Lib.hid (hiP.wide (Nat.zero_le _) (Nat.le_refl _))
  have HQ1 : Hid (IFun w1 0 w1.heap.size (some ⟨gq, 0, none⟩) Q.length (fun j => Q.getD j 0)) := Lib.hid (hiQ.wide (Nat.zero_le _) (Nat.le_refl _))
  have HB1 := Lib.hid (bthen HB0.out hb HB0.out.size)
  clear hb hiP hiQ
  obtain ⟨AP1, hAA⟩ : ∃ AA : Option Addr, AA = some ⟨gp, 0, none⟩ := ⟨_, rfl⟩
  rw [← hAA] at HP1 ⊢
  clear hAA
  obtain ⟨AQ1, hAA⟩ : ∃ AA : Option Addr, AA = some ⟨gq, 0, none⟩ := ⟨_, rfl⟩
  rw [← hAA] at HQ1 ⊢
  clear hAA
  obtain ⟨R, HR⟩ : ∃ R, Hid (wsR P Q = R) := ⟨_, Lib.hid rfl⟩
  obtain ⟨K, HK⟩ : ∃ K, Hid (wsK P Q = K) := ⟨_, Lib.hid rfl⟩
  have hrl : R.length ≤ 30 := by rw [← HR.out]; exact wsR_len P Q
  go_wp2_with fail
  refine (where_impl _ _ _ _ _ _ _ _ P Q _ HP1.out (Nat.le_refl _) (by omega) HQ1.out (Nat.le_refl _) (by omega)).mono ?_
  unfold IntsPost
  rw [HR.out, HK.out]
  rintro e w2 ⟨A2, c2, rfl, ho, hb⟩
  have HB2 := Lib.hid (bthen HB1.out hb HB1.out.size)
  have HP2 := Lib.hid (ifun_at HP1.out hb)
  have HQ2 := Lib.hid (ifun_at HQ1.out hb)
  have HO2 := Lib.hid (ho.wide (Nat.zero_le _) (Nat.le_refl _))
  clear hb ho
  go_wp2_with fail
  refine (where_spec _ _ _ _ _ _ _ _ P Q _ HP2.out (Nat.le_refl _) (by omega) HQ2.out (Nat.le_refl _) (by omega)).mono ?_
  unfold IntsPost
  rw [HR.out, HK.out]
  rintro e w3 ⟨A3, c3, rfl, ho, hb⟩
  have HB3 := Lib.hid (bthen HB2.out hb HB2.out.size)
  have HP3 := Lib.hid (ifun_at HP2.out hb)
  have HQ3 := Lib.hid (ifun_at HQ2.out hb)
  have HO3 := Lib.hid (ifun_at HO2.out hb)
  have HW3 := Lib.hid ho
  clear hb ho
  go_wp2_with fail
  refine (vI_b _ _ _ _ _ _ _ _ _ _ _ HO3.out HW3.out (by omega)).mono ?_
  rintro e w4 ⟨rfl, hb⟩
  have HB4 := Lib.hid (bthen HB3.out hb HB3.out.size)
  have HP4 := Lib.hid (ifun_at HP3.out hb)
  have HQ4 := Lib.hid (ifun_at HQ3.out hb)
  have HO4 := Lib.hid (ifun_at HO3.out hb)
  clear hb
  rcases K with _ | _
  · go_wp2_with fail
    go_ret
    exact ⟨rfl, HB4.out⟩
  have HK2 := Lib.hid (ws_sym HK.out)
  obtain ⟨S, HS⟩ : ∃ S, Hid (wsR Q P = S) := ⟨_, Lib.hid rfl⟩
  have hsl : S.length ≤ 30 := by rw [← HS.out]; exact wsR_len Q P
  go_wp2_with fail
  refine (where_impl _ _ _ _ _ _ _ _ Q P _ HQ4.out (Nat.le_refl _) (by omega) HP4.out (Nat.le_refl _) (by omega)).mono ?_
  unfold IntsPost
  rw [HS.out, HK2.out]
  rintro e w5 ⟨A5, c5, rfl, ho, hb⟩
  have HB5 := Lib.hid (bthen HB4.out hb HB4.out.size)
  have HO5 := Lib.hid (ifun_at HO4.out hb)
  have HT5 := Lib.hid (ho.wide (Nat.zero_le _) (Nat.le_refl _))
  clear hb ho
  obtain ⟨W5, rfl⟩ : ∃ W : World, W = w5 := ⟨_, rfl⟩
  go_wp2_with fail
  go_loopw [36] (fun i wr => ∃ k : Nat, k ≤ R.length ∧ i = .int .i64 k ∧ Hid (W5 = wr)) (fun i _ => R.length - (intOf i).toNat)
  case atStart => exact ⟨0, Nat.zero_le _, rfl, Lib.hid rfl⟩
  case round =>
    obtain ⟨k, hk, rfl, hW⟩ := hrel
    obtain rfl := hW.out
    by_cases hlt : k < R.length
    · obtain ⟨b, rfl, _, _, d0, _⟩ := HO5.out k hlt
      have HNI : Hid (decide (R.getD k 0 ∈ S) = false) := by rw [← HR.out, ← HS.out]; exact Lib.hid (ws_in HK.out (by rw [HR.out]; exact hlt))
      obtain ⟨y, hy⟩ : ∃ y, R.getD k 0 = y := ⟨_, rfl⟩
      dsimp only at d0
      rw [hy] at d0 HNI
      clear hy
      go_wp2_with fail
      refine (vHas_v _ _ _ _ _ S y _ HNI.out _ HT5.out rfl (by omega)).mono ?_
      rintro e w' ⟨rfl, hw'⟩
      have HW' := Lib.hid hw'
      obtain rfl := hw'
      go_wp2_with fail
      go_roundw
      case rel => exact ⟨k + 1, by omega, by go_num, by first | exact HW' | exact Lib.hid trivial | exact Lib.hid rfl⟩
      case measure => simp [intOf]; omega
    · go_wp2_with fail
      go_ret
      exact ⟨rfl, HB5.out⟩
end Go.Proofs.Ytjekmmekkfmplaa
