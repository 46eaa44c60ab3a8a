/-
  A piece of laws.FnPasses, from region 37 on. Conditions: stated at the theorem.
-/
import Derived.Test.YtllfmjnniagjfaaJg
import Derived.Test.YtllfmjnniagjfaaJa
import Derived.Test.YtllfmjnniagjfaaJb
import Derived.Test.YtllfmjnniagjfaaVj
import Derived.Test.YtllfmjnniagjfaaRb
import Derived.Test.YtllfmjnniagjfaaOc
import Derived.Deep.DeepCutAuto
namespace Go.Proofs.Ytllfmjnniagjfaa
open Go.Joins Go.ChangeShapes Go.WideShapes Go.ChangeAt Go.RowKit Go.Deep
set_option linter.unusedVariables false

/-- The code from the region with a number on. -/
def restAt (i : Nat) : Code → Option Code
  | .seq (.region j ops d) b => if j = i then some (.seq (.region j ops d) b) else restAt i b
  | .seq a b => match restAt i a with | some c => some c | none => restAt i b
  | .cond _ a b => match restAt i a with | some c => some c | none => restAt i b
  | _ => none
/-! ### Plain facts -/
theorem ifun_at {w W : World} {A : Option Addr} {n : Nat} {f : Nat → Int} (h : IFun w 0 w.heap.size A n f) (hb : Below w.heap.size w W) : IFun W 0 W.heap.size A n f := (h.on hb (Nat.le_refl _)).wide (Nat.le_refl _) hb.size
/-- A fraction in lowest terms. -/
theorem fr_is {s : Int} {d : Nat} (h0 : 0 ≤ s) (hd : 0 < d) : ∃ g : Nat, 0 < g ∧ s = s.tdiv (gd s d : Nat) * g ∧ (d : Int) = (d : Int) / (gd s d : Nat) * g := by
  refine ⟨gd s d, Nat.gcd_pos_of_pos_right _ hd, ?_, ?_⟩
  · refine (Int.tdiv_mul_cancel ?_).symm
    have h1 : gd s d ∣ s.natAbs := Nat.gcd_dvd_left _ _
    exact Int.dvd_natAbs.1 (Int.natCast_dvd_natCast.2 h1)
  · exact (Int.ediv_mul_cancel (Int.natCast_dvd_natCast.2 (Nat.gcd_dvd_right _ _))).symm
theorem fr_bd {s : Int} {d : Nat} (h0 : 0 ≤ s) (hd : 0 < d) : 0 ≤ s.tdiv (gd s d : Nat) ∧ s.tdiv (gd s d : Nat) ≤ s ∧ 0 ≤ (d : Int) / (gd s d : Nat) ∧ (d : Int) / (gd s d : Nat) ≤ d := by
  obtain ⟨g, hg, h1, h2⟩ := fr_is h0 hd
  obtain ⟨N, hN⟩ : ∃ N, s.tdiv (gd s d : Nat) = N := ⟨_, rfl⟩
  obtain ⟨M, hM⟩ : ∃ M, (d : Int) / (gd s d : Nat) = M := ⟨_, rfl⟩
  rw [hN] at h1 ⊢
  rw [hM] at h2 ⊢
  have hgz : (0 : Int) < g := by omega
  have hn : 0 ≤ N := Int.le_of_mul_le_mul_right (by rw [Int.zero_mul]; omega) hgz
  have hm : 0 ≤ M := Int.le_of_mul_le_mul_right (by rw [Int.zero_mul]; omega) hgz
  have e1 : N * 1 ≤ N * (g : Int) := Int.mul_le_mul_of_nonneg_left (by omega) hn
  have e2 : M * 1 ≤ M * (g : Int) := Int.mul_le_mul_of_nonneg_left (by omega) hm
  omega
theorem fr_le {s : Int} {d : Nat} (h0 : 0 ≤ s) (hd : 0 < d) {p q : Int} (h : p * (d : Int) ≤ q * s) : p * ((d : Int) / (gd s d : Nat)) ≤ q * s.tdiv (gd s d : Nat) := by
  obtain ⟨g, hg, h1, h2⟩ := fr_is h0 hd
  obtain ⟨N, hN⟩ : ∃ N, s.tdiv (gd s d : Nat) = N := ⟨_, rfl⟩
  obtain ⟨M, hM⟩ : ∃ M, (d : Int) / (gd s d : Nat) = M := ⟨_, rfl⟩
  rw [hN] at h1 ⊢
  rw [hM] at h2 ⊢
  have hgz : (0 : Int) < g := by omega
  refine Int.le_of_mul_le_mul_right ?_ hgz
  rw [Int.mul_assoc, Int.mul_assoc, ← h1, ← h2]
  exact h
theorem fr_mul {s : Int} {d : Nat} (h0 : 0 ≤ s) (hd : 0 < d) : s.tdiv (gd s d : Nat) * (d : Int) = s * ((d : Int) / (gd s d : Nat)) := by
  obtain ⟨g, hg, h1, h2⟩ := fr_is h0 hd
  obtain ⟨N, hN⟩ : ∃ N, s.tdiv (gd s d : Nat) = N := ⟨_, rfl⟩
  obtain ⟨M, hM⟩ : ∃ M, (d : Int) / (gd s d : Nat) = M := ⟨_, rfl⟩
  rw [hN] at h1 ⊢
  rw [hM] at h2 ⊢
  rw [h2]
  conv => rhs; rw [h1]
  rw [Int.mul_comm M, Int.mul_assoc]
theorem bs_is {L : List PS} {f t : Int} (h : bsK L f t = true) : Good11 L ∧ 0 ≤ f ∧ f < t ∧ t ≤ 10000 := by
  unfold bsK at h
  rw [Bool.and_eq_true, Bool.and_eq_true] at h
  obtain ⟨a, b⟩ := inB_yes h.1.2
  obtain ⟨c, d⟩ := inB_yes h.2
  exact ⟨good11_of h.1.1, by omega, by omega, by omega⟩
theorem bs_fr {L : List PS} {f t : Int} (h : bsK L f t = true) : (0 ≤ bsN L f t ∧ bsN L f t ≤ 10000) ∧ (0 ≤ bsD L f t ∧ bsD L f t ≤ 10000) ∧ bsN L f t ≤ bsD L f t := by
  obtain ⟨hg, h0, h1, h2⟩ := bs_is h
  obtain ⟨b1, b2⟩ := bz_le hg h0 h1 (Nat.le_refl L.length)
  have hd : 0 < (t - f).toNat := by omega
  have hc : (((t - f).toNat : Nat) : Int) = t - f := by omega
  rw [(bs_yes h).1, (bs_yes h).2.1]
  obtain ⟨c1, c2, c3, c4⟩ := fr_bd b1 hd
  obtain ⟨g, hg', e1, e2⟩ := fr_is b1 hd
  obtain ⟨N, hN⟩ : ∃ N, (bzS L f t L.length).tdiv (gd (bzS L f t L.length) (t - f).toNat : Nat) = N := ⟨_, rfl⟩
  obtain ⟨M, hM⟩ : ∃ M, (((t - f).toNat : Nat) : Int) / (gd (bzS L f t L.length) (t - f).toNat : Nat) = M := ⟨_, rfl⟩
  rw [hN] at e1 c1 c2 ⊢
  rw [hM] at e2 c3 c4 ⊢
  have hle : N * (g : Int) ≤ M * (g : Int) := by rw [← e1, ← e2]; omega
  exact ⟨⟨c1, by omega⟩, ⟨c3, by omega⟩, Int.le_of_mul_le_mul_right hle (by omega)⟩
theorem bs_whole {L : List PS} (h : pssB L = true) : bsK L 0 10000 = true ∧ bsN L 0 10000 * 10000 = mnT L L.length * bsD L 0 10000 := by
  have hk : bsK L 0 10000 = true := bs_4 h (inB_mk (by omega) (by omega)) (inB_mk (by omega) (by omega))
  refine ⟨hk, ?_⟩
  have hg := good11_of h
  rw [(bs_yes hk).1, (bs_yes hk).2.1, bz_all hg (Nat.le_refl _)]
  have h0 := (mnT_bd hg (Nat.le_refl L.length)).1
  have e : ((10000 : Int) - 0).toNat = 10000 := by omega
  rw [e]
  exact fr_mul h0 (by omega)
theorem mnT_top {L : List PS} (h : Good11 L) {k : Nat} (hk : k ≤ L.length) : 0 ≤ mnT L k ∧ mnT L k ≤ 10000 := by
  have h2 := mnT_bd h hk
  have h3 := enK_le h hk
  omega
theorem gs_sailed {L : List PS} {y : Int} (h : pssB L = true) (hy : y ∈ sdL L L.length) : gsK L y = true ∧ 9 * gsD L y ≤ 10 * gsN L y ∧ (0 ≤ gsN L y ∧ gsN L y ≤ 1200000) ∧ (0 ≤ gsD L y ∧ gsD L y ≤ 1200000) := by
  have hg := good11_of h
  have hs := sdL_iff.1 hy
  obtain ⟨j, hj, he⟩ := sail_occ hs
  have h1 := hg.one j hj
  have h2 := h1.l0
  have h3 := h1.l1
  unfold sailB at hs
  rw [Bool.and_eq_true] at hs
  have a1 := of_decide_eq_true hs.1
  have a2 := of_decide_eq_true hs.2
  obtain ⟨p1, p2, p3⟩ := pings_bd hg y (Nat.le_refl L.length)
  have h12 := hg.max
  have hk := gs_4 h (inB_mk (show 1 ≤ y by omega) (show y ≤ 999 by omega)) a1
  have hd : 0 < (apS L y L.length).toNat := by omega
  have hc : (((apS L y L.length).toNat : Nat) : Int) = apS L y L.length := by omega
  refine ⟨hk, ?_⟩
  rw [(gs_yes hk).1, (gs_yes hk).2.1]
  obtain ⟨c1, c2, c3, c4⟩ := fr_bd p1 hd
  have c6 := fr_le p1 hd (p := 9) (q := 10) (by omega)
  exact ⟨c6, ⟨c1, by omega⟩, ⟨c3, by omega⟩⟩
theorem lr_len {L : List PS} {P : List Int} : (lrR L P).length ≤ P.length := by
  unfold lrR
  split
  · exact List.length_filter_le _ _
  · simp
theorem sl_len (L : List PS) : (slR L).length ≤ L.length := by
  unfold slR
  split
  · exact sdL_len L L.length
  · simp
theorem lr_told {L : List PS} {P : List Int} (h : lrK L P = true) : pssB L = true ∧ ∀ k, k < P.length → (P.getD k 0 ∈ lrR L P ↔ ¬ P.getD k 0 ∈ slR L) := by
  have hh := h
  unfold lrK at hh
  rw [Bool.and_eq_true] at hh
  refine ⟨hh.1, fun k hk => ?_⟩
  have e1 : lrR L P = rpL L P := by unfold lrR; rw [h, if_pos rfl]
  have e2 : slR L = sdL L L.length := by unfold slR; rw [hh.1, if_pos rfl]
  rw [e1, e2]
  exact rp_or (by rw [List.getD_eq_getElem?_getD, List.getElem?_eq_getElem hk]; exact List.getElem_mem hk)
theorem sl_in {L : List PS} {k : Nat} (hk : k < (slR L).length) : pssB L = true ∧ (slR L).getD k 0 ∈ sdL L L.length := by
  rcases h : pssB L with _ | _
  · exfalso
    unfold slR at hk
    rw [h] at hk
    simp at hk
  · refine ⟨rfl, ?_⟩
    have e2 : slR L = sdL L L.length := by unfold slR; rw [h, if_pos rfl]
    rw [e2] at hk ⊢
    rw [List.getD_eq_getElem?_getD, List.getElem?_eq_getElem hk]
    exact List.getElem_mem hk
set_option maxRecDepth 20000 in
set_option maxHeartbeats 12800000 in
theorem tailZ37 {c0 : Code} (hc0 : Try.f3.body.bind (restAt 37) = some c0) (A : Option Addr) (n c : Nat) (w W0 : World) (hr : CodeRow w.heap.size A n w) (hb0 : Below w.heap.size w W0) (u1 u2 u3 u4 u5 u6 u7 u8 u9 u10 u11 u12 u13 u14 u15 u16 u17 u18 u19 u20 u21 u22 u23 u24 u25 u26 u27 u28 u29 u30 u31 u32 u33 u34 u35 u36 u37 u38 u39 u40 u41 u42 u43 u44 u45 u46 u47 u48 u49 u50 u51 u52 u53 u54 u55 u56 u57 u58 u59 u60 u61 u62 u63 u64 u65 u66 u67 u68 u69 u70 u71 u72 u73 u74 u75 u76 u77 u78 u79 u80 u81 u82 u83 u84 u85 u86 u87 u88 u89 u90 u91 u92 u93 u94 u95 u96 u97 u98 u99 u100 u101 u102 u103 u104 u105 u106 u107 u108 u109 u110 u111 u112 u113 u114 u115 u116 u117 u118 u119 u120 u121 u122 u123 u124 u125 u126 u127 u128 u129 u130 u131 u132 u133 u134 u135 u136 u137 u138 u139 u140 u141 u142 u143 u144 u145 u146 u147 u148 u149 u150 u151 u152 u153 u154 u155 u156 u157 u158 u159 u160 u161 u162 u163 u164 u165 u166 u167 u168 u169 u170 u171 u172 u173 u174 u175 u176 u177 u178 u179 u180 u181 u182 u183 u184 u185 u186 u187 u188 u189 u190 u191 u192 u193 u194 u195 u196 u197 u198 u199 u200 u201 u202 u203 u204 u205 u206 u207 u208 u209 u210 u211 u212 u213 u214 u215 u216 u217 u218 u219 u220 u221 u222 u223 u224 u225 u226 u227 u228 u229 u230 u231 u232 u233 u234 u235 u236 u237 u238 u239 u240 u241 u242 u243 u244 u245 : Value) :
    c0.wp Try.prog (bodyPost Try.prog Try.f3 fun e w' => e = .returned (.bool true) ∧ Below w.heap.size w w') { tmps := #[.slice A n c, u1, u2, u3, u4, u5, u6, u7, u8, u9, u10, u11, u12, u13, u14, u15, u16, u17, u18, u19, u20, u21, u22, u23, u24, u25, u26, u27, u28, u29, u30, u31, u32, u33, u34, u35, u36, u37, u38, u39, u40, u41, u42, u43, u44, u45, u46, u47, u48, u49, u50, u51, u52, u53, u54, u55, u56, u57, u58, u59, u60, u61, u62, u63, u64, u65, u66, u67, u68, u69, u70, u71, u72, u73, u74, u75, u76, u77, u78, u79, u80, u81, u82, u83, u84, u85, u86, u87, u88, u89, u90, u91, u92, u93, u94, u95, u96, u97, u98, u99, u100, u101, u102, u103, u104, u105, u106, u107, u108, u109, u110, u111, u112, u113, u114, u115, u116, u117, u118, u119, u120, u121, u122, u123, u124, u125, u126, u127, u128, u129, u130, u131, u132, u133, u134, u135, u136, u137, u138, u139, u140, u141, u142, u143, u144, u145, u146, u147, u148, u149, u150, u151, u152, u153, u154, u155, u156, u157, u158, u159, u160, u161, u162, u163, u164, u165, u166, u167, u168, u169, u170, u171, u172, u173, u174, u175, u176, u177, u178, u179, u180, u181, u182, u183, u184, u185, u186, u187, u188, u189, u190, u191, u192, u193, u194, u195, u196, u197, u198, u199, u200, u201, u202, u203, u204, u205, u206, u207, u208, u209, u210, u211, u212, u213, u214, u215, u216, u217, u218, u219, u220, u221, u222, u223, u224, u225, u226, u227, u228, u229, u230, u231, u232, u233, u234, u235, u236, u237, u238, u239, u240, u241, u242, u243, u244, u245], defers := [] } W0 := by
  cases (show Try.f3.body.bind (restAt 37) = some _ from rfl).symm.trans hc0
  have HRW := Lib.hid hr
  have HB0 := Lib.hid hb0
  clear hc0 hb0 hr
  go_wp2_with fail
  refine (draw_min A n c _ (HRW.out.below HB0.out HB0.out.size)).mono ?_
  rintro e w1 ⟨L, gb, cap, l, rfl, hl1, hcap1, hcm1, hS, hb⟩
  have HS1 := Lib.hid hS
  have HB1 := Lib.hid (bthen HB0.out hb HB0.out.size)
  have hm1 : L.length ≤ maxLen := by unfold maxLen; omega
  clear hS hb
  obtain ⟨AA1, hAA⟩ : ∃ AA : Option Addr, AA = some ⟨gb, 0, none⟩ := ⟨_, rfl⟩
  rw [← hAA] at HS1 ⊢
  clear hAA
  obtain ⟨N, HN⟩ : ∃ N, Hid (mtR L l = N) := ⟨_, Lib.hid rfl⟩
  obtain ⟨K, HK⟩ : ∃ K, Hid (mtK L l = K) := ⟨_, Lib.hid rfl⟩
  go_wp2_with fail
  refine (minutes_impl _ _ _ L l _ HS1.out hm1).mono ?_
  unfold Num2J
  rw [HN.out, HK.out]
  rintro e w2 ⟨rfl, hb⟩
  have HB2 := Lib.hid (bthen HB1.out hb HB1.out.size)
  have HS2 := Lib.hid (sds_atJ HS1.out hb)
  clear hb
  go_wp2_with fail
  refine (minutes_spec _ _ _ L l _ HS2.out hm1).mono ?_
  unfold Num2J
  rw [HN.out, HK.out]
  rintro e w3 ⟨rfl, hb⟩
  have HB3 := Lib.hid (bthen HB2.out hb HB2.out.size)
  clear hb
  clear HN HK
  rcases K with _ | _
  · go_wp2_with fail
    go_ret
    exact ⟨ret_bool (by simp), HB3.out⟩
  · go_wp2_with fail
    go_ret
    exact ⟨ret_bool (by simp), HB3.out⟩
end Go.Proofs.Ytllfmjnniagjfaa
