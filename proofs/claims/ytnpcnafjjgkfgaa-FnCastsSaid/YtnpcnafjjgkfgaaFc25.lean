/-
  A piece of laws.FnCasts, from region 25 on. Conditions: stated at the theorem.
-/
import Derived.Test.YtnpcnafjjgkfgaaRo2
import Derived.Test.YtnpcnafjjgkfgaaZx
import Derived.Test.YtnpcnafjjgkfgaaZ9
import Derived.Test.YtnpcnafjjgkfgaaZk
import Derived.Test.YtnpcnafjjgkfgaaRb
import Derived.Test.YtnpcnafjjgkfgaaOc
import Derived.Deep.DeepCutAuto
namespace Go.Proofs.Ytnpcnafjjgkfgaa
open Go.Joins Go.ChangeShapes Go.WideShapes Go.ChangeAt Go.RowKit Go.Deep
set_option linter.unusedVariables false

/-- The code from the region with a number on. -/
def restAt (i : Nat) : Code → Option Code
  | .seq (.region j ops d) b => if j = i then some (.seq (.region j ops d) b) else restAt i b
  | .seq a b => match restAt i a with | some c => some c | none => restAt i b
  | .cond _ a b => match restAt i a with | some c => some c | none => restAt i b
  | _ => none
/-! ### Plain facts -/
theorem oneK_is {v : KC} {x lo hi : Int} (h : oneK v x lo hi = true) : castB v = true ∧ lo ≤ x ∧ x ≤ hi := by
  unfold oneK inB at h
  simp only [Bool.and_eq_true, decide_eq_true_eq] at h
  exact ⟨h.1, h.2⟩
theorem oneK_mk {v : KC} {x lo hi : Int} (h : castB v = true) (h1 : lo ≤ x) (h2 : x ≤ hi) : oneK v x lo hi = true := by
  unfold oneK inB
  simp only [Bool.and_eq_true, decide_eq_true_eq]
  exact ⟨h, h1, h2⟩
theorem oneV_yes {K : Bool} {x : Int} (h : K = true) : oneV K x = x := by subst h; rfl
theorem dep_some {l : List (Int × Int)} (h : Lays l) {m : Int} (hm : 0 ≤ m) : ∃ d, IsDep l m d := by
  have key : ∀ k : Nat, k ≤ 20000 → ∃ d : Int, 0 ≤ d ∧ d ≤ k ∧ trv l d ≤ m ∧ ∀ e, d < e → e ≤ k → m < trv l e := by
    intro k
    induction k with
    | zero => intro _; exact ⟨0, by omega, by omega, by rw [trv_zero h]; exact hm, fun e a b => by omega⟩
    | succ k ih =>
      intro hk
      obtain ⟨d, h1, h2, h3, h4⟩ := ih (by omega)
      by_cases ht : trv l ((k : Int) + 1) ≤ m
      · exact ⟨(k : Int) + 1, by omega, by omega, ht, fun e a b => by omega⟩
      · refine ⟨d, h1, by omega, h3, fun e a b => ?_⟩
        by_cases e1 : e ≤ k
        · exact h4 e a e1
        · obtain rfl : e = (k : Int) + 1 := by omega
          omega
  obtain ⟨d, h1, h2, h3, h4⟩ := key 20000 (Nat.le_refl _)
  exact ⟨d, h1, by omega, h3, fun e a b => h4 e a (by omega)⟩
theorem dep_all {v : KC} {m : Int} (h : oneK v m 0 1000000 = true) : IsDep v.l m (depF v.l m) := by
  obtain ⟨hc, h0, _⟩ := oneK_is h
  obtain ⟨d, hd⟩ := dep_some (castB_lays hc) h0
  rw [depF_is hd]
  exact hd
theorem trav_low {v : KC} {d : Int} : 0 ≤ oneV (oneK v d 0 20000) (trv v.l d) := by
  rcases h : oneK v d 0 20000 with _ | _
  · exact Int.le_refl 0
  · obtain ⟨hc, h0, h1⟩ := oneK_is h
    exact (trv_bd (castB_lays hc) h0 (by omega)).1
theorem thin_good {id tm x y : Int} {l : List (Int × Int)} (h : castB ⟨id, tm, x, y, l⟩ = true) : castB ⟨id, tm, x, y, thin l⟩ = true := by
  have hl := lays_mk (thin_lays (castB_lays h))
  unfold castB at h ⊢
  simp only [Bool.and_eq_true] at h ⊢
  exact ⟨⟨⟨⟨hl, h.1.1.1.2⟩, h.1.1.2⟩, h.1.2⟩, h.2⟩
set_option maxRecDepth 20000 in
set_option maxHeartbeats 12800000 in
theorem tail25 {c0 : Code} (hc0 : Try.f3.body.bind (restAt 25) = some c0) (A : Option Addr) (n c : Nat) (w W0 : World) (hr : CodeRow w.heap.size A n w) (hb0 : Below w.heap.size w W0) (u1 u2 u3 u4 u5 u6 u7 u8 u9 u10 u11 u12 u13 u14 u15 u16 u17 u18 u19 u20 u21 u22 u23 u24 u25 u26 u27 u28 u29 u30 u31 u32 u33 u34 u35 u36 u37 u38 u39 u40 u41 u42 u43 u44 u45 u46 u47 u48 u49 u50 u51 u52 u53 u54 u55 u56 u57 u58 u59 u60 u61 u62 u63 u64 u65 u66 u67 u68 u69 u70 u71 u72 u73 u74 u75 u76 u77 u78 u79 u80 u81 u82 u83 u84 u85 u86 u87 u88 u89 u90 u91 u92 u93 u94 u95 u96 u97 u98 u99 u100 u101 u102 u103 u104 u105 u106 u107 u108 u109 u110 u111 u112 u113 u114 u115 u116 u117 u118 u119 u120 u121 u122 u123 u124 u125 u126 u127 u128 u129 u130 u131 u132 u133 u134 u135 u136 u137 u138 u139 u140 u141 u142 u143 u144 u145 u146 u147 u148 u149 u150 u151 u152 u153 u154 u155 u156 u157 u158 u159 u160 u161 u162 u163 u164 u165 u166 u167 u168 u169 u170 u171 u172 u173 u174 u175 u176 u177 u178 u179 u180 u181 u182 u183 u184 u185 u186 u187 u188 u189 u190 u191 u192 u193 u194 u195 : Value) :
    c0.wp Try.prog (bodyPost Try.prog Try.f3 fun e w' => e = .returned (.bool true) ∧ Below w.heap.size w w') { tmps := #[.slice A n c, u1, u2, u3, u4, u5, u6, u7, u8, u9, u10, u11, u12, u13, u14, u15, u16, u17, u18, u19, u20, u21, u22, u23, u24, u25, u26, u27, u28, u29, u30, u31, u32, u33, u34, u35, u36, u37, u38, u39, u40, u41, u42, u43, u44, u45, u46, u47, u48, u49, u50, u51, u52, u53, u54, u55, u56, u57, u58, u59, u60, u61, u62, u63, u64, u65, u66, u67, u68, u69, u70, u71, u72, u73, u74, u75, u76, u77, u78, u79, u80, u81, u82, u83, u84, u85, u86, u87, u88, u89, u90, u91, u92, u93, u94, u95, u96, u97, u98, u99, u100, u101, u102, u103, u104, u105, u106, u107, u108, u109, u110, u111, u112, u113, u114, u115, u116, u117, u118, u119, u120, u121, u122, u123, u124, u125, u126, u127, u128, u129, u130, u131, u132, u133, u134, u135, u136, u137, u138, u139, u140, u141, u142, u143, u144, u145, u146, u147, u148, u149, u150, u151, u152, u153, u154, u155, u156, u157, u158, u159, u160, u161, u162, u163, u164, u165, u166, u167, u168, u169, u170, u171, u172, u173, u174, u175, u176, u177, u178, u179, u180, u181, u182, u183, u184, u185, u186, u187, u188, u189, u190, u191, u192, u193, u194, u195], defers := [] } W0 := by
  cases (show Try.f3.body.bind (restAt 25) = some _ from rfl).symm.trans hc0
  have HRW := Lib.hid hr
  have HB0 := Lib.hid hb0
  clear hc0 hb0 hr
  go_wp2_with fail
  refine (draw_speed A n c _ (HRW.out.below HB0.out HB0.out.size)).mono ?_
  rintro e w1 ⟨idy, tmy, spy, Ry, my, cy, ly, dy, rfl, hl, hm9, hO, hb⟩
  subst hl
  have hmy : ly.length ≤ maxLen := by unfold maxLen; omega
  have h9y := hm9
  have HBx2 := Lib.hid (bthen HB0.out hb HB0.out.size)
  clear hb
  have HSy := Lib.hid (hO.1.spots (Nat.le_refl _))
  clear hO hm9
  obtain ⟨W3, hW⟩ : ∃ W, W = w1.alloc (.cells #[.int .i64 idy, .int .i64 tmy, .int .i64 spy.1, .int .i64 spy.2, .slice Ry ly.length cy] 28) := ⟨_, rfl⟩
  have HXy : Hid (Has W3 w1.heap.size [.int .i64 idy, .int .i64 tmy, .int .i64 spy.1, .int .i64 spy.2, .slice Ry ly.length cy]) := by rw [hW]; exact Lib.hid (by simpa using Has.new w1 #[.int .i64 idy, .int .i64 tmy, .int .i64 spy.1, .int .i64 spy.2, .slice Ry ly.length cy] 28)
  have hb : Below w1.heap.size w1 W3 := by rw [hW]; exact (Below.refl _ _).alloc (Nat.le_refl _) _
  have HE := Lib.hid hW
  clear hW
  have HBx4 := Lib.hid (bthen HBx2.out hb HBx2.out.size)
  have HSy_4 := Lib.hid (spots_at HSy.out hb)
  clear hb
  go_upto_region 26 with fail
  rw [← HE.out]
  clear HE
  obtain ⟨Ky, hK⟩ : ∃ K, oneK ⟨idy, tmy, spy.1, spy.2, ly⟩ dy 0 20000 = K := ⟨_, rfl⟩
  obtain ⟨Vy, hV⟩ : ∃ V, oneV (oneK ⟨idy, tmy, spy.1, spy.2, ly⟩ dy 0 20000) (spOf ly dy) = V := ⟨_, rfl⟩
  have HOy := Lib.hid (And.intro hV hK)
  clear hK hV
  have qy0 := HXy.out.at_ 0 _ rfl
  have qy1 := HXy.out.at_ 1 _ rfl
  have qy2 := HXy.out.at_ 2 _ rfl
  have qy3 := HXy.out.at_ 3 _ rfl
  have qy4 := HXy.out.at_ 4 _ rfl
  go_wp2_with fail
  refine (speedAt_impl _ _ _ _ dy _ _ _ ly _ HSy_4.out hmy).mono ?_
  rintro e w5 ⟨he, hb⟩
  rw [HOy.out.1, HOy.out.2] at he
  subst he
  clear qy0 qy1 qy2 qy3 qy4
  have HBx6 := Lib.hid (bthen HBx4.out hb HBx4.out.size)
  have HSy_6 := Lib.hid (spots_at HSy_4.out hb)
  have HXy_6 := Lib.hid (HXy.out.next hb)
  clear hb
  have qy0 := HXy_6.out.at_ 0 _ rfl
  have qy1 := HXy_6.out.at_ 1 _ rfl
  have qy2 := HXy_6.out.at_ 2 _ rfl
  have qy3 := HXy_6.out.at_ 3 _ rfl
  have qy4 := HXy_6.out.at_ 4 _ rfl
  go_wp2_with fail
  refine (speedAt_spec _ _ _ _ dy _ _ _ ly _ HSy_6.out hmy).mono ?_
  rintro e w7 ⟨he, hb⟩
  rw [HOy.out.1, HOy.out.2] at he
  subst he
  clear qy0 qy1 qy2 qy3 qy4
  have HBx8 := Lib.hid (bthen HBx6.out hb HBx6.out.size)
  have HSy_8 := Lib.hid (spots_at HSy_6.out hb)
  have HXy_8 := Lib.hid (HXy_6.out.next hb)
  clear hb
  go_wp2_with fail
  refine (draw_travel A n c _ (HRW.out.below HBx8.out HBx8.out.size)).mono ?_
  rintro e w9 ⟨idz, tmz, spz, Rz, mz, cz, lz, dz, rfl, hl, hm9, hO, hb⟩
  subst hl
  have hmz : lz.length ≤ maxLen := by unfold maxLen; omega
  have h9z := hm9
  have HBx10 := Lib.hid (bthen HBx8.out hb HBx8.out.size)
  clear hb
  have HSz := Lib.hid (hO.1.spots (Nat.le_refl _))
  clear hO hm9
  obtain ⟨W11, hW⟩ : ∃ W, W = w9.alloc (.cells #[.int .i64 idz, .int .i64 tmz, .int .i64 spz.1, .int .i64 spz.2, .slice Rz lz.length cz] 28) := ⟨_, rfl⟩
  have HXz : Hid (Has W11 w9.heap.size [.int .i64 idz, .int .i64 tmz, .int .i64 spz.1, .int .i64 spz.2, .slice Rz lz.length cz]) := by rw [hW]; exact Lib.hid (by simpa using Has.new w9 #[.int .i64 idz, .int .i64 tmz, .int .i64 spz.1, .int .i64 spz.2, .slice Rz lz.length cz] 28)
  have hb : Below w9.heap.size w9 W11 := by rw [hW]; exact (Below.refl _ _).alloc (Nat.le_refl _) _
  have HE := Lib.hid hW
  clear hW
  have HBx12 := Lib.hid (bthen HBx10.out hb HBx10.out.size)
  have HSz_12 := Lib.hid (spots_at HSz.out hb)
  clear hb
  go_upto_region 31 with fail
  rw [← HE.out]
  clear HE
  obtain ⟨Kz, hK⟩ : ∃ K, oneK ⟨idz, tmz, spz.1, spz.2, lz⟩ dz 0 20000 = K := ⟨_, rfl⟩
  obtain ⟨Vz, hV⟩ : ∃ V, oneV (oneK ⟨idz, tmz, spz.1, spz.2, lz⟩ dz 0 20000) (trv lz dz) = V := ⟨_, rfl⟩
  have HOz := Lib.hid (And.intro hV hK)
  clear hK hV
  have hz0 : 0 ≤ Vz := by rw [← HOz.out.1]; exact trav_low (v := ⟨idz, tmz, spz.1, spz.2, lz⟩) (d := dz)
  have qz0 := HXz.out.at_ 0 _ rfl
  have qz1 := HXz.out.at_ 1 _ rfl
  have qz2 := HXz.out.at_ 2 _ rfl
  have qz3 := HXz.out.at_ 3 _ rfl
  have qz4 := HXz.out.at_ 4 _ rfl
  go_wp2_with fail
  refine (travelTo_impl _ _ _ _ dz _ _ _ lz _ HSz_12.out hmz).mono ?_
  rintro e w13 ⟨he, hb⟩
  rw [HOz.out.1, HOz.out.2] at he
  subst he
  clear qz0 qz1 qz2 qz3 qz4
  have HBx14 := Lib.hid (bthen HBx12.out hb HBx12.out.size)
  have HSz_14 := Lib.hid (spots_at HSz_12.out hb)
  have HXz_14 := Lib.hid (HXz.out.next hb)
  clear hb
  have qz0 := HXz_14.out.at_ 0 _ rfl
  have qz1 := HXz_14.out.at_ 1 _ rfl
  have qz2 := HXz_14.out.at_ 2 _ rfl
  have qz3 := HXz_14.out.at_ 3 _ rfl
  have qz4 := HXz_14.out.at_ 4 _ rfl
  go_wp2_with fail
  refine (travelTo_spec _ _ _ _ dz _ _ _ lz _ HSz_14.out hmz).mono ?_
  rintro e w15 ⟨he, hb⟩
  rw [HOz.out.1, HOz.out.2] at he
  subst he
  clear qz0 qz1 qz2 qz3 qz4
  have HBx16 := Lib.hid (bthen HBx14.out hb HBx14.out.size)
  have HSz_16 := Lib.hid (spots_at HSz_14.out hb)
  have HXz_16 := Lib.hid (HXz_14.out.next hb)
  clear hb
  go_wp2_with fail
  go_ret
  exact ⟨by simp, HBx16.out⟩
end Go.Proofs.Ytnpcnafjjgkfgaa
