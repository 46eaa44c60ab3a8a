/-
  A piece of laws.FnSpeeds, from region 24 on. Conditions: stated at the theorem.
-/
import Derived.Test.YtdmnkmdlochogabRo2
import Derived.Test.YtdmnkmdlochogabRo3
import Derived.Test.YtdmnkmdlochogabRs
import Derived.Test.YtdmnkmdlochogabZx
import Derived.Test.YtdmnkmdlochogabZ9
import Derived.Test.YtdmnkmdlochogabZ7
import Derived.Test.YtdmnkmdlochogabZy
import Derived.Test.YtdmnkmdlochogabRb
import Derived.Test.YtdmnkmdlochogabOc
import Derived.Deep.DeepCutAuto
namespace Go.Proofs.Ytdmnkmdlochogab
open Go.Joins Go.ChangeShapes Go.WideShapes Go.ChangeAt Go.RowKit Go.Deep
set_option linter.unusedVariables false

/-- The code from the region with a number on. -/
def restAt (i : Nat) : Code → Option Code
  | .seq (.region j ops d) b => if j = i then some (.seq (.region j ops d) b) else restAt i b
  | .seq a b => match restAt i a with | some c => some c | none => restAt i b
  | .cond _ a b => match restAt i a with | some c => some c | none => restAt i b
  | _ => none
/-! ### Plain facts -/
theorem mean_bd {v : KC} {d : Int} : (0 ≤ oneV (oneK v d 1 20000) (mnD v.l d) ∧ oneV (oneK v d 1 20000) (mnD v.l d) ≤ 20000) ∧ 14000 * oneV (oneK v d 1 20000) (mnD v.l d) ≤ oneV (oneK v d 1 20000) (mnN v.l d) ∧ oneV (oneK v d 1 20000) (mnN v.l d) ≤ 16000 * oneV (oneK v d 1 20000) (mnD v.l d) := by
  rcases h : oneK v d 1 20000 with _ | _
  · exact ⟨⟨Int.le_refl 0, by show (0 : Int) ≤ 20000; omega⟩, by show (14000 : Int) * 0 ≤ 0; omega, by show (0 : Int) ≤ 16000 * 0; omega⟩
  · have h' := h
    unfold oneK inB at h'
    simp only [Bool.and_eq_true, decide_eq_true_eq] at h'
    obtain ⟨hc, h0, h1⟩ := h'
    have hS := mnS_bd (castB_lays hc) (d := d) (by omega)
    show (0 ≤ mnD v.l d ∧ mnD v.l d ≤ 20000) ∧ 14000 * mnD v.l d ≤ mnN v.l d ∧ mnN v.l d ≤ 16000 * mnD v.l d
    unfold mnD mnN
    obtain ⟨S, hSe⟩ : ∃ S, mnS v.l d = S := ⟨_, rfl⟩
    rw [hSe] at hS ⊢
    obtain ⟨D, rfl⟩ : ∃ D : Nat, d = D := ⟨d.toNat, by omega⟩
    obtain ⟨N, rfl⟩ : ∃ N : Nat, S = N := ⟨S.toNat, by omega⟩
    have hgd : gd (N : Int) (D : Int).toNat = Nat.gcd N D := by unfold gd; simp
    rw [hgd]
    have hpos : 0 < Nat.gcd N D := Nat.gcd_pos_of_pos_right _ (by omega)
    obtain ⟨a, ha⟩ := Nat.gcd_dvd_left N D
    obtain ⟨b, hb⟩ := Nat.gcd_dvd_right N D
    obtain ⟨q, hq⟩ : ∃ q, Nat.gcd N D = q := ⟨_, rfl⟩
    rw [hq] at ha hb hpos ⊢
    have e1 : (N : Int).tdiv (q : Nat) = (a : Int) := by
      rw [Int.tdiv_eq_ediv_of_nonneg (by omega), ha]
      have : ((q * a : Nat) : Int) = (q : Int) * a := by simp
      rw [this, Int.mul_ediv_cancel_left _ (by omega)]
    have e2 : (D : Int) / (q : Nat) = (b : Int) := by
      rw [hb]
      have : ((q * b : Nat) : Int) = (q : Int) * b := by simp
      rw [this, Int.mul_ediv_cancel_left _ (by omega)]
    rw [e1, e2]
    have f1 : 14000 * b ≤ a := by
      refine Nat.le_of_mul_le_mul_left ?_ hpos
      rw [← ha, show q * (14000 * b) = 14000 * (q * b) from by rw [Nat.mul_left_comm], ← hb]
      omega
    have f2 : a ≤ 16000 * b := by
      refine Nat.le_of_mul_le_mul_left ?_ hpos
      rw [← ha, show q * (16000 * b) = 16000 * (q * b) from by rw [Nat.mul_left_comm], ← hb]
      omega
    have f3 : b ≤ D := by rw [hb]; exact Nat.le_mul_of_pos_left b hpos
    omega
theorem sl_swap (u v : KC) (d : Int) : slV u v d = slV v u d ∧ slOk u v d = slOk v u d := by
  have h : slOk u v d = slOk v u d := by unfold slOk; rw [Bool.and_comm (castB u)]
  exact ⟨by unfold slV; rw [h, samB_swap], h⟩
/-- What the law asks of each cast beside the one that was found. -/
theorem ca_law {L : List KC} {t V : Int} (hV : ctV L t = V) (h0 : 0 < V) {k : Nat} {v : KC} (hk : L[k]? = some v) : (v.id = V → v.tm ≤ t) ∧ ∀ v', L[k + 1]? = some v' → v.tm ≤ t → t < v'.tm → v.id = V := by
  unfold ctV at hV
  split at hV
  · rename_i hc
    rw [Bool.and_eq_true] at hc
    have hg := good7_of hc.1
    have hkl := (List.getElem?_eq_some_iff.1 hk).1
    refine ⟨fun e => ?_, fun v' hv' h1 h2 => ?_⟩
    · have := caId_tm hg (t := t) hkl (by omega) (by rw [kcAt_at hk]; omega)
      rw [kcAt_at hk] at this
      exact this
    · have := caId_hit hg (t := t) hkl (by rw [kcAt_at hk]; exact h1) (fun _ => by rw [kcAt_at hv']; exact h2)
      rw [kcAt_at hk] at this
      omega
  · omega
set_option maxRecDepth 20000 in
set_option maxHeartbeats 12800000 in
theorem tail24 {c0 : Code} (hc0 : Try.f6.body.bind (restAt 24) = some c0) (A : Option Addr) (n c : Nat) (w W0 : World) (hr : CodeRow w.heap.size A n w) (hb0 : Below w.heap.size w W0) (u1 u2 u3 u4 u5 u6 u7 u8 u9 u10 u11 u12 u13 u14 u15 u16 u17 u18 u19 u20 u21 u22 u23 u24 u25 u26 u27 u28 u29 u30 u31 u32 u33 u34 u35 u36 u37 u38 u39 u40 u41 u42 u43 u44 u45 u46 u47 u48 u49 u50 u51 u52 u53 u54 u55 u56 u57 u58 u59 u60 u61 u62 u63 u64 u65 u66 u67 u68 u69 u70 u71 u72 u73 u74 u75 u76 u77 u78 u79 u80 u81 u82 u83 u84 u85 u86 u87 u88 u89 u90 u91 u92 u93 u94 u95 u96 u97 u98 u99 u100 u101 u102 u103 u104 u105 u106 u107 u108 u109 u110 u111 u112 u113 u114 u115 u116 u117 u118 u119 u120 u121 u122 u123 u124 u125 u126 u127 u128 u129 u130 u131 u132 u133 u134 u135 u136 u137 u138 u139 u140 u141 u142 u143 u144 u145 u146 u147 u148 u149 u150 u151 u152 u153 u154 u155 u156 u157 u158 u159 u160 u161 u162 u163 u164 u165 u166 u167 u168 u169 u170 u171 u172 u173 u174 u175 u176 u177 u178 u179 u180 u181 u182 u183 u184 u185 u186 u187 u188 u189 u190 u191 u192 u193 u194 u195 u196 u197 u198 u199 u200 u201 u202 u203 u204 u205 u206 u207 u208 u209 u210 u211 u212 u213 u214 u215 u216 u217 u218 u219 u220 u221 u222 u223 u224 u225 u226 u227 u228 u229 u230 u231 u232 u233 u234 u235 u236 u237 u238 u239 u240 u241 u242 u243 u244 u245 u246 u247 u248 u249 u250 u251 : Value) :
    c0.wp Try.prog (bodyPost Try.prog Try.f6 fun e w' => e = .returned (.bool true) ∧ Below w.heap.size w w') { tmps := #[.slice A n c, u1, u2, u3, u4, u5, u6, u7, u8, u9, u10, u11, u12, u13, u14, u15, u16, u17, u18, u19, u20, u21, u22, u23, u24, u25, u26, u27, u28, u29, u30, u31, u32, u33, u34, u35, u36, u37, u38, u39, u40, u41, u42, u43, u44, u45, u46, u47, u48, u49, u50, u51, u52, u53, u54, u55, u56, u57, u58, u59, u60, u61, u62, u63, u64, u65, u66, u67, u68, u69, u70, u71, u72, u73, u74, u75, u76, u77, u78, u79, u80, u81, u82, u83, u84, u85, u86, u87, u88, u89, u90, u91, u92, u93, u94, u95, u96, u97, u98, u99, u100, u101, u102, u103, u104, u105, u106, u107, u108, u109, u110, u111, u112, u113, u114, u115, u116, u117, u118, u119, u120, u121, u122, u123, u124, u125, u126, u127, u128, u129, u130, u131, u132, u133, u134, u135, u136, u137, u138, u139, u140, u141, u142, u143, u144, u145, u146, u147, u148, u149, u150, u151, u152, u153, u154, u155, u156, u157, u158, u159, u160, u161, u162, u163, u164, u165, u166, u167, u168, u169, u170, u171, u172, u173, u174, u175, u176, u177, u178, u179, u180, u181, u182, u183, u184, u185, u186, u187, u188, u189, u190, u191, u192, u193, u194, u195, u196, u197, u198, u199, u200, u201, u202, u203, u204, u205, u206, u207, u208, u209, u210, u211, u212, u213, u214, u215, u216, u217, u218, u219, u220, u221, u222, u223, u224, u225, u226, u227, u228, u229, u230, u231, u232, u233, u234, u235, u236, u237, u238, u239, u240, u241, u242, u243, u244, u245, u246, u247, u248, u249, u250, u251], defers := [] } W0 := by
  cases (show Try.f6.body.bind (restAt 24) = some _ from rfl).symm.trans hc0
  have HRW := Lib.hid hr
  have HB0 := Lib.hid hb0
  clear hc0 hb0 hr
  go_wp2_with fail
  refine (draw_near A n c _ (HRW.out.below HB0.out HB0.out.size)).mono ?_
  rintro e w1 ⟨gb, mn, pn, Ln, x, y, t, v, he, hlen, h7, hcap, hcs, hb⟩
  obtain ⟨An, hA⟩ : ∃ A : Option Addr, A = some ⟨gb, 0, none⟩ := ⟨_, rfl⟩
  rw [← hA] at he hcs
  subst he hlen
  clear hA
  have hmn : Ln.length ≤ maxLen := by unfold maxLen; omega
  have h7n := h7
  have hpn := hcap
  have HBx2 := Lib.hid (bthen HB0.out hb HB0.out.size)
  clear hb
  have HKn := Lib.hid hcs
  clear hcs h7 hcap
  obtain ⟨W3, hW⟩ : ∃ W, W = w1.alloc (.cells #[.int .i64 x, .int .i64 y] 61) := ⟨_, rfl⟩
  have HXs : Hid (Has W3 w1.heap.size [.int .i64 x, .int .i64 y]) := by rw [hW]; exact Lib.hid (by simpa using Has.new w1 #[.int .i64 x, .int .i64 y] 61)
  have hb : Below w1.heap.size w1 W3 := by rw [hW]; exact (Below.refl _ _).alloc (Nat.le_refl _) _
  have HE := Lib.hid hW
  clear hW
  have HBx4 := Lib.hid (bthen HBx2.out hb HBx2.out.size)
  have HKn_4 := Lib.hid (casts_at HKn.out hb)
  clear hb
  go_upto_region 25 with fail
  rw [← HE.out]
  clear HE
  obtain ⟨V, hV⟩ : ∃ V, neV Ln x y t v = V := ⟨_, rfl⟩
  obtain ⟨K, hK⟩ : ∃ K, castsB Ln = K := ⟨_, rfl⟩
  have HVK := Lib.hid (And.intro hV hK)
  clear hV hK
  have q0 := HXs.out.at_ 0 _ rfl
  have q1 := HXs.out.at_ 1 _ rfl
  go_wp2_with fail
  refine (near_impl _ _ _ Ln x y t v _ HKn_4.out hmn hpn).mono ?_
  rintro e w5 ⟨he, hb⟩
  rw [HVK.out.1] at he
  subst he
  clear q0 q1
  have HBx6 := Lib.hid (bthen HBx4.out hb HBx4.out.size)
  have HKn_6 := Lib.hid (casts_at HKn_4.out hb)
  have HXs_6 := Lib.hid (HXs.out.next hb)
  clear hb
  have q0 := HXs_6.out.at_ 0 _ rfl
  have q1 := HXs_6.out.at_ 1 _ rfl
  go_wp2_with fail
  refine (near_spec _ _ _ Ln x y t v _ HKn_6.out hmn).mono ?_
  rintro e w7 ⟨he, hb⟩
  rw [HVK.out.1] at he
  subst he
  clear q0 q1
  have HBx8 := Lib.hid (bthen HBx6.out hb HBx6.out.size)
  have HKn_8 := Lib.hid (casts_at HKn_6.out hb)
  have HXs_8 := Lib.hid (HXs_6.out.next hb)
  clear hb
  go_wp2_with fail
  refine (areK_v _ _ _ Ln K HVK.out.2 _ HKn_8.out hmn hpn).mono ?_
  rintro e w9 ⟨rfl, hb⟩
  have HBx10 := Lib.hid (bthen HBx8.out hb HBx8.out.size)
  have HKn_10 := Lib.hid (casts_at HKn_8.out hb)
  have HXs_10 := Lib.hid (HXs_8.out.next hb)
  clear hb
  go_wp2_with fail
  refine (areK_spec _ _ _ Ln _ HKn_10.out hmn).mono ?_
  rintro e w11 ⟨he, hb⟩
  rw [HVK.out.2] at he
  subst he
  have HBx12 := Lib.hid (bthen HBx10.out hb HBx10.out.size)
  clear hb
  go_wp2_with fail
  go_ret
  exact ⟨by simp, HBx12.out⟩
end Go.Proofs.Ytdmnkmdlochogab
