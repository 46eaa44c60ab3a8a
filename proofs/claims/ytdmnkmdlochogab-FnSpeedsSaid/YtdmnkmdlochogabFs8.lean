/-
  A piece of laws.FnSpeeds, from region 8 on. Conditions: stated at the theorem.
-/
import Derived.Test.YtdmnkmdlochogabFs24
namespace Go.Proofs.Ytdmnkmdlochogab
open Go.Joins Go.ChangeShapes Go.WideShapes Go.ChangeAt Go.RowKit Go.Deep
set_option linter.unusedVariables false

set_option maxRecDepth 20000 in
set_option maxHeartbeats 12800000 in
theorem tail8 {c0 : Code} (hc0 : Try.f6.body.bind (restAt 8) = some c0) (A : Option Addr) (n c : Nat) (w W0 : World) (hr : CodeRow w.heap.size A n w) (hb0 : Below w.heap.size w W0) (u1 u2 u3 u4 u5 u6 u7 u8 u9 u10 u11 u12 u13 u14 u15 u16 u17 u18 u19 u20 u21 u22 u23 u24 u25 u26 u27 u28 u29 u30 u31 u32 u33 u34 u35 u36 u37 u38 u39 u40 u41 u42 u43 u44 u45 u46 u47 u48 u49 u50 u51 u52 u53 u54 u55 u56 u57 u58 u59 u60 u61 u62 u63 u64 u65 u66 u67 u68 u69 u70 u71 u72 u73 u74 u75 u76 u77 u78 u79 u80 u81 u82 u83 u84 u85 u86 u87 u88 u89 u90 u91 u92 u93 u94 u95 u96 u97 u98 u99 u100 u101 u102 u103 u104 u105 u106 u107 u108 u109 u110 u111 u112 u113 u114 u115 u116 u117 u118 u119 u120 u121 u122 u123 u124 u125 u126 u127 u128 u129 u130 u131 u132 u133 u134 u135 u136 u137 u138 u139 u140 u141 u142 u143 u144 u145 u146 u147 u148 u149 u150 u151 u152 u153 u154 u155 u156 u157 u158 u159 u160 u161 u162 u163 u164 u165 u166 u167 u168 u169 u170 u171 u172 u173 u174 u175 u176 u177 u178 u179 u180 u181 u182 u183 u184 u185 u186 u187 u188 u189 u190 u191 u192 u193 u194 u195 u196 u197 u198 u199 u200 u201 u202 u203 u204 u205 u206 u207 u208 u209 u210 u211 u212 u213 u214 u215 u216 u217 u218 u219 u220 u221 u222 u223 u224 u225 u226 u227 u228 u229 u230 u231 u232 u233 u234 u235 u236 u237 u238 u239 u240 u241 u242 u243 u244 u245 u246 u247 u248 u249 u250 u251 : Value) :
    c0.wp Try.prog (bodyPost Try.prog Try.f6 fun e w' => e = .returned (.bool true) ∧ Below w.heap.size w w') { tmps := #[.slice A n c, u1, u2, u3, u4, u5, u6, u7, u8, u9, u10, u11, u12, u13, u14, u15, u16, u17, u18, u19, u20, u21, u22, u23, u24, u25, u26, u27, u28, u29, u30, u31, u32, u33, u34, u35, u36, u37, u38, u39, u40, u41, u42, u43, u44, u45, u46, u47, u48, u49, u50, u51, u52, u53, u54, u55, u56, u57, u58, u59, u60, u61, u62, u63, u64, u65, u66, u67, u68, u69, u70, u71, u72, u73, u74, u75, u76, u77, u78, u79, u80, u81, u82, u83, u84, u85, u86, u87, u88, u89, u90, u91, u92, u93, u94, u95, u96, u97, u98, u99, u100, u101, u102, u103, u104, u105, u106, u107, u108, u109, u110, u111, u112, u113, u114, u115, u116, u117, u118, u119, u120, u121, u122, u123, u124, u125, u126, u127, u128, u129, u130, u131, u132, u133, u134, u135, u136, u137, u138, u139, u140, u141, u142, u143, u144, u145, u146, u147, u148, u149, u150, u151, u152, u153, u154, u155, u156, u157, u158, u159, u160, u161, u162, u163, u164, u165, u166, u167, u168, u169, u170, u171, u172, u173, u174, u175, u176, u177, u178, u179, u180, u181, u182, u183, u184, u185, u186, u187, u188, u189, u190, u191, u192, u193, u194, u195, u196, u197, u198, u199, u200, u201, u202, u203, u204, u205, u206, u207, u208, u209, u210, u211, u212, u213, u214, u215, u216, u217, u218, u219, u220, u221, u222, u223, u224, u225, u226, u227, u228, u229, u230, u231, u232, u233, u234, u235, u236, u237, u238, u239, u240, u241, u242, u243, u244, u245, u246, u247, u248, u249, u250, u251], defers := [] } W0 := by
  cases (show Try.f6.body.bind (restAt 8) = some _ from rfl).symm.trans hc0
  have HRW := Lib.hid hr
  have HB0 := Lib.hid hb0
  clear hc0 hb0 hr
  go_wp2_with fail
  refine (draw_two A n c _ (HRW.out.below HB0.out HB0.out.size)).mono ?_
  rintro e w1 ⟨ida, tma, spa, Ra, ma, ca, la, idb, tmb, spb, Rb, mb, cb, lb, d, rfl, ⟨hla, h9a, hOa, hb⟩, ⟨hlb, h9b, hOb, _⟩⟩
  subst hla hlb
  have hma : la.length ≤ maxLen := by unfold maxLen; omega
  have hmb : lb.length ≤ maxLen := by unfold maxLen; omega
  have HBx2 := Lib.hid (bthen HB0.out hb HB0.out.size)
  clear hb
  have HSa := Lib.hid (hOa.1.spots (Nat.le_refl _))
  have HSb := Lib.hid (hOb.1.spots (Nat.le_refl _))
  clear hOa hOb
  obtain ⟨W3, hW⟩ : ∃ W, W = (w1.alloc (.cells #[.int .i64 ida, .int .i64 tma, .int .i64 spa.1, .int .i64 spa.2, .slice Ra la.length ca] 64)).alloc (.cells #[.int .i64 idb, .int .i64 tmb, .int .i64 spb.1, .int .i64 spb.2, .slice Rb lb.length cb] 64) := ⟨_, rfl⟩
  have HXa : Hid (Has W3 w1.heap.size [.int .i64 ida, .int .i64 tma, .int .i64 spa.1, .int .i64 spa.2, .slice Ra la.length ca]) := by rw [hW]; exact Lib.hid ((by simpa using Has.new w1 #[.int .i64 ida, .int .i64 tma, .int .i64 spa.1, .int .i64 spa.2, .slice Ra la.length ca] 64 : Has (w1.alloc (.cells #[.int .i64 ida, .int .i64 tma, .int .i64 spa.1, .int .i64 spa.2, .slice Ra la.length ca] 64)) w1.heap.size [.int .i64 ida, .int .i64 tma, .int .i64 spa.1, .int .i64 spa.2, .slice Ra la.length ca]).alloc _)
  have HXb : Hid (Has W3 (w1.heap.size + 1) [.int .i64 idb, .int .i64 tmb, .int .i64 spb.1, .int .i64 spb.2, .slice Rb lb.length cb]) := by rw [hW]; exact Lib.hid (by simpa using Has.new (w1.alloc (.cells #[.int .i64 ida, .int .i64 tma, .int .i64 spa.1, .int .i64 spa.2, .slice Ra la.length ca] 64)) #[.int .i64 idb, .int .i64 tmb, .int .i64 spb.1, .int .i64 spb.2, .slice Rb lb.length cb] 64)
  have hb : Below w1.heap.size w1 W3 := by rw [hW]; exact ((Below.refl _ _).alloc (Nat.le_refl _) _).alloc (by simp) _
  have HE := Lib.hid hW
  clear hW
  have HBx4 := Lib.hid (bthen HBx2.out hb HBx2.out.size)
  have HSa_4 := Lib.hid (spots_at HSa.out hb)
  have HSb_4 := Lib.hid (spots_at HSb.out hb)
  clear hb
  go_upto_region 9 with fail
  rw [← HE.out]
  clear HE
  obtain ⟨Vs, hV⟩ : ∃ V, slV ⟨ida, tma, spa.1, spa.2, la⟩ ⟨idb, tmb, spb.1, spb.2, lb⟩ d = V := ⟨_, rfl⟩
  obtain ⟨Ks, hK⟩ : ∃ K, slOk ⟨ida, tma, spa.1, spa.2, la⟩ ⟨idb, tmb, spb.1, spb.2, lb⟩ d = K := ⟨_, rfl⟩
  have HSV := Lib.hid (And.intro hV (And.intro hK (And.intro ((sl_swap ⟨ida, tma, spa.1, spa.2, la⟩ ⟨idb, tmb, spb.1, spb.2, lb⟩ d).1.symm.trans hV) ((sl_swap ⟨ida, tma, spa.1, spa.2, la⟩ ⟨idb, tmb, spb.1, spb.2, lb⟩ d).2.symm.trans hK))))
  clear hV hK
  have qa0 := HXa.out.at_ 0 _ rfl
  have qa1 := HXa.out.at_ 1 _ rfl
  have qa2 := HXa.out.at_ 2 _ rfl
  have qa3 := HXa.out.at_ 3 _ rfl
  have qa4 := HXa.out.at_ 4 _ rfl
  have qb0 := HXb.out.at_ 0 _ rfl
  have qb1 := HXb.out.at_ 1 _ rfl
  have qb2 := HXb.out.at_ 2 _ rfl
  have qb3 := HXb.out.at_ 3 _ rfl
  have qb4 := HXb.out.at_ 4 _ rfl
  go_wp2_with fail
  refine (same_impl _ _ _ _ _ _ _ _ _ _ _ _ _ _ _ la lb _ HSa_4.out HSb_4.out hma hmb).mono ?_
  rintro e w5 ⟨he, hb⟩
  rw [HSV.out.1, HSV.out.2.1] at he
  subst he
  clear qa0 qa1 qa2 qa3 qa4 qb0 qb1 qb2 qb3 qb4
  have HBx6 := Lib.hid (bthen HBx4.out hb HBx4.out.size)
  have HSa_6 := Lib.hid (spots_at HSa_4.out hb)
  have HSb_6 := Lib.hid (spots_at HSb_4.out hb)
  have HXa_6 := Lib.hid (HXa.out.next hb)
  have HXb_6 := Lib.hid (HXb.out.next hb)
  clear hb
  have qa0 := HXa_6.out.at_ 0 _ rfl
  have qa1 := HXa_6.out.at_ 1 _ rfl
  have qa2 := HXa_6.out.at_ 2 _ rfl
  have qa3 := HXa_6.out.at_ 3 _ rfl
  have qa4 := HXa_6.out.at_ 4 _ rfl
  have qb0 := HXb_6.out.at_ 0 _ rfl
  have qb1 := HXb_6.out.at_ 1 _ rfl
  have qb2 := HXb_6.out.at_ 2 _ rfl
  have qb3 := HXb_6.out.at_ 3 _ rfl
  have qb4 := HXb_6.out.at_ 4 _ rfl
  go_wp2_with fail
  refine (same_impl _ _ _ _ _ _ _ _ _ _ _ _ _ _ _ lb la _ HSb_6.out HSa_6.out hmb hma).mono ?_
  rintro e w7 ⟨he, hb⟩
  rw [HSV.out.2.2.1, HSV.out.2.2.2] at he
  subst he
  clear qa0 qa1 qa2 qa3 qa4 qb0 qb1 qb2 qb3 qb4
  have HBx8 := Lib.hid (bthen HBx6.out hb HBx6.out.size)
  have HSa_8 := Lib.hid (spots_at HSa_6.out hb)
  have HSb_8 := Lib.hid (spots_at HSb_6.out hb)
  have HXa_8 := Lib.hid (HXa_6.out.next hb)
  have HXb_8 := Lib.hid (HXb_6.out.next hb)
  clear hb
  have qa0 := HXa_8.out.at_ 0 _ rfl
  have qa1 := HXa_8.out.at_ 1 _ rfl
  have qa2 := HXa_8.out.at_ 2 _ rfl
  have qa3 := HXa_8.out.at_ 3 _ rfl
  have qa4 := HXa_8.out.at_ 4 _ rfl
  have qb0 := HXb_8.out.at_ 0 _ rfl
  have qb1 := HXb_8.out.at_ 1 _ rfl
  have qb2 := HXb_8.out.at_ 2 _ rfl
  have qb3 := HXb_8.out.at_ 3 _ rfl
  have qb4 := HXb_8.out.at_ 4 _ rfl
  go_wp2_with fail
  refine (same_spec _ _ _ _ _ _ _ _ _ _ _ _ _ _ _ la lb _ HSa_8.out HSb_8.out hma hmb).mono ?_
  rintro e w9 ⟨he, hb⟩
  rw [HSV.out.1, HSV.out.2.1] at he
  subst he
  clear qa0 qa1 qa2 qa3 qa4 qb0 qb1 qb2 qb3 qb4
  have HBx10 := Lib.hid (bthen HBx8.out hb HBx8.out.size)
  have HSa_10 := Lib.hid (spots_at HSa_8.out hb)
  have HSb_10 := Lib.hid (spots_at HSb_8.out hb)
  have HXa_10 := Lib.hid (HXa_8.out.next hb)
  have HXb_10 := Lib.hid (HXb_8.out.next hb)
  clear hb
  go_wp2_with fail
  refine (draw_castAt A n c _ (HRW.out.below HBx10.out HBx10.out.size)).mono ?_
  rintro e w11 ⟨gb, mn, pn, Ln, t, he, hlen, h7, hcap, hcs, hb⟩
  obtain ⟨An, hA⟩ : ∃ A : Option Addr, A = some ⟨gb, 0, none⟩ := ⟨_, rfl⟩
  rw [← hA] at he hcs
  subst he hlen
  clear hA
  have hmn : Ln.length ≤ maxLen := by unfold maxLen; omega
  have h7n := h7
  have hpn := hcap
  have HBx12 := Lib.hid (bthen HBx10.out hb HBx10.out.size)
  clear hb
  have HKn := Lib.hid hcs
  clear hcs h7 hcap
  obtain ⟨V, hV⟩ : ∃ V, ctV Ln t = V := ⟨_, rfl⟩
  have HV := Lib.hid hV
  clear hV
  go_wp2_with fail
  refine (castAt_impl _ _ _ Ln t _ HKn.out hmn hpn).mono ?_
  rintro e w13 ⟨he, hb⟩
  rw [HV.out] at he
  subst he
  have HBx14 := Lib.hid (bthen HBx12.out hb HBx12.out.size)
  have HKn_14 := Lib.hid (casts_at HKn.out hb)
  clear hb
  go_wp2_with fail
  refine (castAt_spec _ _ _ Ln t _ HKn_14.out hmn).mono ?_
  rintro e w15 ⟨he, hb⟩
  rw [HV.out] at he
  subst he
  have HBx16 := Lib.hid (bthen HBx14.out hb HBx14.out.size)
  have HKn_16 := Lib.hid (casts_at HKn_14.out hb)
  clear hb
  go_wp2_with fail
  rename (Act → World → Prop) => KK
  rename (∀ (a : Act) (w : World), _ → KK a w) => aK
  have HKK := Lib.hid aK
  clear aK
  go_loopw [26] (fun i wr => ∃ k : Nat, k ≤ Ln.length ∧ i = .int .i64 k ∧ Hid (Below w15.heap.size w15 wr)) (fun i _ => Ln.length - (intOf i).toNat)
  case atStart => exact ⟨0, Nat.zero_le _, rfl, Lib.hid (Below.refl _ _)⟩
  case round =>
    obtain ⟨k, hk, rfl, hB⟩ := hrel
    have HT := Lib.hid (bthen HBx16.out hB.out HBx16.out.size)
    by_cases hlt : k < Ln.length
    · have hki : decide ((k : Int) < Ln.length) = true := decide_eq_true (by omega)
      by_cases h0 : 0 < V
      · have hd0 : decide (0 < V) = true := decide_eq_true h0
        obtain ⟨b, o, id, tm, xx, yy, l, A', c', rfl, hbl, hL, p0, p1, _⟩ := (casts_at HKn_16.out hB.out).2 k hlt
        obtain ⟨f1, f2⟩ := ca_law HV.out h0 hL
        dsimp only at f1 f2
        by_cases hs : tm ≤ t
        · have e1 : decide (t < tm) = false := decide_eq_false (by omega)
          have e2 : decide (tm ≤ t) = true := decide_eq_true hs
          by_cases h1 : k + 1 < Ln.length
          · have e3 : decide ((k : Int) + 1 < Ln.length) = true := decide_eq_true (by omega)
            obtain ⟨b2, o2, id2, tm2, xx2, yy2, l2, A2, c2, hA2, _, hL2, _, p3, _⟩ := (casts_at HKn_16.out hB.out).2 (k + 1) h1
            simp only [Option.some.injEq, Addr.mk.injEq, and_true] at hA2
            obtain ⟨rfl, rfl⟩ := hA2
            have f3 := f2 _ hL2 hs
            dsimp only at f3
            clear f1 f2 hL hL2
            by_cases hs2 : t < tm2
            · have f4 := f3 hs2
              subst f4
              have e4 : decide (t < tm2) = true := decide_eq_true hs2
              clear f3 hs hs2
              go_wp2_with fail
              go_roundw
              case rel => exact ⟨k + 1, by omega, by go_num, hB⟩
              case measure => simp [intOf]; omega
            · have e4 : decide (t < tm2) = false := decide_eq_false hs2
              clear f3 hs hs2
              rcases hq : (id == V) with _ | _
              · go_wp2_with fail
                go_roundw
                case rel => exact ⟨k + 1, by omega, by go_num, hB⟩
                case measure => simp [intOf]; omega
              · go_wp2_with fail
                go_roundw
                case rel => exact ⟨k + 1, by omega, by go_num, hB⟩
                case measure => simp [intOf]; omega
          · have e3 : decide ((k : Int) + 1 < Ln.length) = false := decide_eq_false (by omega)
            clear f1 f2 hL hs
            rcases hq : (id == V) with _ | _
            · go_wp2_with fail
              go_roundw
              case rel => exact ⟨k + 1, by omega, by go_num, hB⟩
              case measure => simp [intOf]; omega
            · go_wp2_with fail
              go_roundw
              case rel => exact ⟨k + 1, by omega, by go_num, hB⟩
              case measure => simp [intOf]; omega
        · have e1 : decide (t < tm) = true := decide_eq_true (by omega)
          have e2 : decide (tm ≤ t) = false := decide_eq_false hs
          have hq : (id == V) = false := beq_eq_false_iff_ne.2 (fun e => hs (f1 e))
          clear f1 f2 hL hs
          go_wp2_with fail
          go_roundw
          case rel => exact ⟨k + 1, by omega, by go_num, hB⟩
          case measure => simp [intOf]; omega
      · have hd0 : decide (0 < V) = false := decide_eq_false h0
        go_wp2_with fail
        exact HKK.out _ _ (tail24 rfl A n c w _ HRW.out HT.out _ _ _ _ _ _ _ _ _ _ _ _ _ _ _ _ _ _ _ _ _ _ _ _ _ _ _ _ _ _ _ _ _ _ _ _ _ _ _ _ _ _ _ _ _ _ _ _ _ _ _ _ _ _ _ _ _ _ _ _ _ _ _ _ _ _ _ _ _ _ _ _ _ _ _ _ _ _ _ _ _ _ _ _ _ _ _ _ _ _ _ _ _ _ _ _ _ _ _ _ _ _ _ _ _ _ _ _ _ _ _ _ _ _ _ _ _ _ _ _ _ _ _ _ _ _ _ _ _ _ _ _ _ _ _ _ _ _ _ _ _ _ _ _ _ _ _ _ _ _ _ _ _ _ _ _ _ _ _ _ _ _ _ _ _ _ _ _ _ _ _ _ _ _ _ _ _ _ _ _ _ _ _ _ _ _ _ _ _ _ _ _ _ _ _ _ _ _ _ _ _ _ _ _ _ _ _ _ _ _ _ _ _ _ _ _ _ _ _ _ _ _ _ _ _ _ _ _ _ _ _ _ _ _ _ _ _ _ _ _ _ _ _ _ _ _ _ _ _ _ _)
    · have hki : decide ((k : Int) < Ln.length) = false := decide_eq_false (by omega)
      go_wp2_with fail
      exact HKK.out _ _ (tail24 rfl A n c w _ HRW.out HT.out _ _ _ _ _ _ _ _ _ _ _ _ _ _ _ _ _ _ _ _ _ _ _ _ _ _ _ _ _ _ _ _ _ _ _ _ _ _ _ _ _ _ _ _ _ _ _ _ _ _ _ _ _ _ _ _ _ _ _ _ _ _ _ _ _ _ _ _ _ _ _ _ _ _ _ _ _ _ _ _ _ _ _ _ _ _ _ _ _ _ _ _ _ _ _ _ _ _ _ _ _ _ _ _ _ _ _ _ _ _ _ _ _ _ _ _ _ _ _ _ _ _ _ _ _ _ _ _ _ _ _ _ _ _ _ _ _ _ _ _ _ _ _ _ _ _ _ _ _ _ _ _ _ _ _ _ _ _ _ _ _ _ _ _ _ _ _ _ _ _ _ _ _ _ _ _ _ _ _ _ _ _ _ _ _ _ _ _ _ _ _ _ _ _ _ _ _ _ _ _ _ _ _ _ _ _ _ _ _ _ _ _ _ _ _ _ _ _ _ _ _ _ _ _ _ _ _ _ _ _ _ _ _ _ _ _ _ _ _ _ _ _ _ _ _ _ _ _ _ _ _)
end Go.Proofs.Ytdmnkmdlochogab
