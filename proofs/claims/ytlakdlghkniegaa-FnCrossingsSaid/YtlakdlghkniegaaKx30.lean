/-
  A piece of laws.FnCrossings, from region 30 on. Conditions: stated at the theorem.
-/
import Derived.Test.YtlakdlghkniegaaKm
import Derived.Test.YtlakdlghkniegaaKt
import Derived.Test.YtlakdlghkniegaaVk
import Derived.Test.YtlakdlghkniegaaVb
import Derived.Test.YtlakdlghkniegaaOc
import Derived.Deep.DeepCutAuto
namespace Go.Proofs.Ytlakdlghkniegaa
open Go.Joins Go.ChangeShapes Go.WideShapes Go.ChangeAt Go.RowKit Go.Deep
set_option linter.unusedVariables false

/-- The code from the region with a number on. -/
def restAt (i : Nat) : Code → Option Code
  | .seq (.region j ops d) b => if j = i then some (.seq (.region j ops d) b) else restAt i b
  | .seq a b => match restAt i a with | some c => some c | none => restAt i b
  | .cond _ a b => match restAt i a with | some c => some c | none => restAt i b
  | _ => none
/-! ### Plain facts -/
theorem xgoodA_v (A : Option Addr) (n c : Nat) (L : List XD) (r : Bool) (h : xdsB L = r) (w : World) (hs : SdsX w w.heap.size A n L) (hm : n ≤ maxLen) :
    Calls Try.prog 20 #[.slice A n c] w fun e w' => e = .returned (.bool r) ∧ Below w.heap.size w w' := h ▸ xds_spec A n c L w hs hm
theorem md_is {L : List XD} (h : mdK L = true) : Good10 L ∧ 0 < L.length := by
  unfold mdK at h
  rw [Bool.and_eq_true] at h
  exact ⟨good10_of h.1, of_decide_eq_true h.2⟩
theorem gt_most {L : List XD} (h : mdK L = true) {k : Nat} (hk : k < L.length) : szI (dfI (xdAt L k)) ≤ szI (gtV L) := by
  rw [(gt_yes h).2.1]
  exact gdK_most L _ _ (by omega)
theorem gtV_bd {L : List XD} (h : mdK L = true) : -21000 ≤ gtV L ∧ gtV L ≤ 21000 := by
  obtain ⟨hg, h0⟩ := md_is h
  rw [(gt_yes h).2.1]
  have := gdK_le L (L.length - 1)
  have := dfI_bd (hg.one (gdK L (L.length - 1)) (by omega))
  exact ⟨this.1, this.2.1⟩
theorem ts_is {L : List XD} {f p : Int} (h : tsB L f p = true) : xdsB L = true ∧ (0 ≤ f ∧ f ≤ 500) ∧ inB p 0 100 = true ∧ ntR L f p = ntI L f p L.length := by
  have hh := h
  unfold tsB at hh
  simp only [Bool.and_eq_true] at hh
  exact ⟨hh.1.1, inB_yes hh.1.2, hh.2, by unfold ntR; rw [h]; rfl⟩
theorem ts_more {L : List XD} {f p : Int} (h : tsB L f p = true) (hf : f < 500) : tsB L (f + 1) p = true := by
  obtain ⟨h1, h2, h3, _⟩ := ts_is h
  exact ts_yes h1 (inB_mk (by omega) (by omega)) h3
theorem nt_sub {L : List XD} {f p : Int} (h : tsB L f p = true) (hf : f < 500) {x : Int} (hx : x ∈ ntR L (f + 1) p) : x ∈ ntR L f p := by
  rw [(ts_is (ts_more h hf)).2.2.2] at hx
  rw [(ts_is h).2.2.2]
  unfold ntI at hx ⊢
  obtain ⟨i, hi, rfl⟩ := List.mem_map.1 hx
  exact List.mem_map.2 ⟨i, ntK_mono (by omega) hi, rfl⟩
theorem list_at {xs : List Int} {k : Nat} (h : k < xs.length) : xs.getD k 0 ∈ xs := by rw [List.getD_eq_getElem?_getD, List.getElem?_eq_getElem h]; exact List.getElem_mem h
theorem list_of {xs : List Int} {x : Int} (h : x ∈ xs) : ∃ j, j < xs.length ∧ xs.getD j 0 = x := by
  obtain ⟨j, hj⟩ := List.mem_iff_getElem?.1 h
  exact ⟨j, (List.getElem?_eq_some_iff.1 hj).1, by rw [List.getD_eq_getElem?_getD, hj]; rfl⟩
theorem sm_is {L : List XD} {p : Int} (h : smK9 L p = true) : xdsB L = true ∧ inB p 0 100 = true ∧ smR L p = smF L p L.length := by
  have hh := h
  unfold smK9 at hh
  rw [Bool.and_eq_true] at hh
  exact ⟨hh.1, hh.2, by unfold smR; rw [h]; rfl⟩
theorem sm_fits {L : List XD} {p : Int} (h : smK9 L p = true) (h5 : smR L p ≤ 500) : tsB L (smR L p) p = true ∧ ntR L (smR L p) p = [] := by
  obtain ⟨h1, h2, h3⟩ := sm_is h
  have h0 := smF_nonneg L p L.length
  rw [← h3] at h0
  have ht := ts_yes h1 (inB_mk h0 h5) h2
  refine ⟨ht, ?_⟩
  rw [(ts_is ht).2.2.2]
  unfold ntI
  rw [h3, sm_none]
  rfl
theorem sm_less {L : List XD} {p : Int} (h : smK9 L p = true) (h5 : smR L p ≤ 500) (h0 : 0 < smR L p) : tsB L (smR L p - 1) p = true ∧ 0 < (ntR L (smR L p - 1) p).length := by
  obtain ⟨h1, h2, h3⟩ := sm_is h
  have ht := ts_yes h1 (inB_mk (show 0 ≤ smR L p - 1 by omega) (show smR L p - 1 ≤ 500 by omega)) h2
  refine ⟨ht, ?_⟩
  rw [(ts_is ht).2.2.2, ntI_len, h3]
  rw [h3] at h0
  exact List.length_pos_iff.2 (sm_more h0)
set_option maxRecDepth 20000 in
set_option maxHeartbeats 12800000 in
theorem tailX30 {c0 : Code} (hc0 : Try.f3.body.bind (restAt 30) = some c0) (A : Option Addr) (n c : Nat) (w W0 : World) (hr : CodeRow w.heap.size A n w) (hb0 : Below w.heap.size w W0) (u1 u2 u3 u4 u5 u6 u7 u8 u9 u10 u11 u12 u13 u14 u15 u16 u17 u18 u19 u20 u21 u22 u23 u24 u25 u26 u27 u28 u29 u30 u31 u32 u33 u34 u35 u36 u37 u38 u39 u40 u41 u42 u43 u44 u45 u46 u47 u48 u49 u50 u51 u52 u53 u54 u55 u56 u57 u58 u59 u60 u61 u62 u63 u64 u65 u66 u67 u68 u69 u70 u71 u72 u73 u74 u75 u76 u77 u78 u79 u80 u81 u82 u83 u84 u85 u86 u87 u88 u89 u90 u91 u92 u93 u94 u95 u96 u97 u98 u99 u100 u101 u102 u103 u104 u105 u106 u107 u108 u109 u110 u111 u112 u113 u114 u115 u116 u117 u118 u119 u120 u121 u122 u123 u124 u125 u126 u127 u128 u129 u130 u131 u132 u133 u134 u135 u136 u137 u138 u139 u140 u141 u142 u143 u144 u145 u146 u147 u148 u149 u150 u151 u152 u153 u154 u155 u156 u157 u158 u159 u160 u161 u162 u163 u164 u165 u166 u167 u168 u169 u170 u171 u172 u173 u174 u175 u176 u177 u178 u179 u180 u181 u182 u183 u184 u185 u186 u187 u188 u189 u190 u191 u192 u193 u194 u195 u196 u197 u198 u199 u200 u201 u202 u203 u204 u205 u206 u207 u208 u209 u210 u211 u212 u213 u214 u215 u216 u217 u218 u219 u220 u221 u222 u223 u224 u225 u226 u227 u228 u229 u230 u231 u232 u233 u234 u235 u236 u237 u238 u239 : Value) :
    c0.wp Try.prog (bodyPost Try.prog Try.f3 fun e w' => e = .returned (.bool true) ∧ Below w.heap.size w w') { tmps := #[.slice A n c, u1, u2, u3, u4, u5, u6, u7, u8, u9, u10, u11, u12, u13, u14, u15, u16, u17, u18, u19, u20, u21, u22, u23, u24, u25, u26, u27, u28, u29, u30, u31, u32, u33, u34, u35, u36, u37, u38, u39, u40, u41, u42, u43, u44, u45, u46, u47, u48, u49, u50, u51, u52, u53, u54, u55, u56, u57, u58, u59, u60, u61, u62, u63, u64, u65, u66, u67, u68, u69, u70, u71, u72, u73, u74, u75, u76, u77, u78, u79, u80, u81, u82, u83, u84, u85, u86, u87, u88, u89, u90, u91, u92, u93, u94, u95, u96, u97, u98, u99, u100, u101, u102, u103, u104, u105, u106, u107, u108, u109, u110, u111, u112, u113, u114, u115, u116, u117, u118, u119, u120, u121, u122, u123, u124, u125, u126, u127, u128, u129, u130, u131, u132, u133, u134, u135, u136, u137, u138, u139, u140, u141, u142, u143, u144, u145, u146, u147, u148, u149, u150, u151, u152, u153, u154, u155, u156, u157, u158, u159, u160, u161, u162, u163, u164, u165, u166, u167, u168, u169, u170, u171, u172, u173, u174, u175, u176, u177, u178, u179, u180, u181, u182, u183, u184, u185, u186, u187, u188, u189, u190, u191, u192, u193, u194, u195, u196, u197, u198, u199, u200, u201, u202, u203, u204, u205, u206, u207, u208, u209, u210, u211, u212, u213, u214, u215, u216, u217, u218, u219, u220, u221, u222, u223, u224, u225, u226, u227, u228, u229, u230, u231, u232, u233, u234, u235, u236, u237, u238, u239], defers := [] } W0 := by
  cases (show Try.f3.body.bind (restAt 30) = some _ from rfl).symm.trans hc0
  have HRW := Lib.hid hr
  have HB0 := Lib.hid hb0
  clear hc0 hb0 hr
  go_wp2_with fail
  refine (draw_great A n c _ (HRW.out.below HB0.out HB0.out.size)).mono ?_
  rintro e w1 ⟨L, gb, cap, rfl, hl1, hcap1, hS, hb⟩
  have HS1 := Lib.hid hS
  have HB1 := Lib.hid (bthen HB0.out hb HB0.out.size)
  have hm1 : L.length ≤ maxLen := by unfold maxLen; omega
  clear hS hb
  obtain ⟨AA1, hAA⟩ : ∃ AA : Option Addr, AA = some ⟨gb, 0, none⟩ := ⟨_, rfl⟩
  rw [← hAA] at HS1 ⊢
  clear hAA
  obtain ⟨G, HG⟩ : ∃ G, Hid (gtI L = G) := ⟨_, Lib.hid rfl⟩
  obtain ⟨V, HV⟩ : ∃ V, Hid (gtV L = V) := ⟨_, Lib.hid rfl⟩
  obtain ⟨K, HK⟩ : ∃ K, Hid (mdK L = K) := ⟨_, Lib.hid rfl⟩
  go_wp2_with fail
  refine (great_impl _ _ _ L _ HS1.out hm1 hcap1).mono ?_
  unfold Num3X
  rw [HG.out, HV.out, HK.out]
  rintro e w2 ⟨rfl, hb⟩
  have HB2 := Lib.hid (bthen HB1.out hb HB1.out.size)
  have HS2 := Lib.hid (sds_atX HS1.out hb)
  clear hb
  go_wp2_with fail
  refine (great_spec _ _ _ L _ HS2.out hm1).mono ?_
  unfold Num3X
  rw [HG.out, HV.out, HK.out]
  rintro e w3 ⟨rfl, hb⟩
  have HB3 := Lib.hid (bthen HB2.out hb HB2.out.size)
  have HS3 := Lib.hid (sds_atX HS2.out hb)
  clear hb
  rcases K with _ | _
  · go_wp2_with fail
    go_loopw [37] (fun i wr => i = .int .i64 0 ∧ Hid (Below w.heap.size w wr)) (fun _ _ => 0)
    case atStart => exact ⟨rfl, HB3⟩
    case round =>
      obtain ⟨rfl, hB⟩ := hrel
      by_cases h0 : 0 < L.length
      · go_wp2_with fail
        go_ret
        exact ⟨rfl, hB.out⟩
      · have hz : L.length = 0 := by omega
        go_wp2_with fail
        go_ret
        exact ⟨rfl, hB.out⟩
  obtain ⟨v1, v2⟩ := gtV_bd HK.out
  rw [HV.out] at v1 v2
  have HGD := Lib.hid (md_is HK.out).1
  have HMO : Hid (∀ k, k < L.length → szI (dfI (xdAt L k)) ≤ szI V) := Lib.hid fun k hk => by rw [← HV.out]; exact gt_most HK.out hk
  obtain ⟨s2, hs2⟩ : ∃ s, szI V = s := ⟨_, rfl⟩
  have HS2V := Lib.hid hs2
  rw [hs2] at HMO
  clear hs2
  obtain ⟨W3, rfl⟩ : ∃ W : World, W = w3 := ⟨_, rfl⟩
  go_wp2_with fail
  go_loopw [37] (fun i wr => ∃ k : Nat, k ≤ L.length ∧ i = .int .i64 k ∧ Hid (Below W3.heap.size W3 wr)) (fun i _ => L.length - (intOf i).toNat)
  case atStart => exact ⟨0, Nat.zero_le _, rfl, Lib.hid (Below.refl _ _)⟩
  case round =>
    obtain ⟨k, hk, rfl, hB⟩ := hrel
    have HBT := Lib.hid (bthen HB3.out hB.out HB3.out.size)
    obtain ⟨W0, rfl⟩ : ∃ W : World, W = wr := ⟨_, rfl⟩
    by_cases hlt : k < L.length
    rotate_left
    · go_wp2_with fail
      go_ret
      exact ⟨rfl, HBT.out⟩
    obtain ⟨b', o', v, rfl, hbl, hL, c0, c1, c2, c3⟩ := (sds_atX HS3.out hB.out).2 k hlt
    have hxv := HGD.out.one k hlt
    rw [xdAt_at hL] at hxv
    obtain ⟨q1, q2, _⟩ := dfI_bd hxv
    obtain ⟨s1, hs1⟩ : ∃ s, szI (v.ck - v.mn) = s := ⟨_, rfl⟩
    have hle : s1 ≤ s2 := by have := HMO.out k hlt; rw [xdAt_at hL] at this; unfold dfI at this; omega
    have hdd : decide (s1 > s2) = false := decide_eq_false (by omega)
    have HS1V := Lib.hid hs1
    unfold dfI at q1 q2
    clear hL hxv hs1
    go_wp2_with fail
    have lc0 := lcell (c0)
    have lc1 := lcell (c1)
    have lc2 := lcell (c2)
    have lc3 := lcell (c3)
    refine region_later (W := W0) (by kernel_rfl) (by kernel_rfl) (Below.refl _ _) ?_
    repeat (go_big_quiet_step (((first | (go_at_call 31; with_reducible exact later_same (vSize_v _ s1 HS1V.out _ (by omega) (by omega))) | (go_at_call 31; with_reducible exact later_same (vSize_v _ s2 HS2V.out _ (by omega) (by omega)))))))
    refine wpQuiet_nil ?_
    intro W6 hW1
    have HL : Hid (Below W0.heap.size W0 W6) := by obtain ⟨x, rfl⟩ := hW1; exact Lib.hid x.below
    clear hW1 lc0 lc1 lc2 lc3
    have HB7 := Lib.hid (bthen hB.out HL.out hB.out.size)
    clear c0 c1 c2 c3 HL
    go_wp2_with fail
    go_roundw
    case rel => exact ⟨k + 1, by omega, by go_num, HB7⟩
    case measure => simp [intOf]; omega
end Go.Proofs.Ytlakdlghkniegaa
