/-
  Thinner casts: contracts of ThinCast of spec and impl over this translation. Conditions: stated at each theorem.
-/
import Derived.Test.YtnpcnafjjgkfgaaZv
import Derived.Test.YtnpcnafjjgkfgaaZj
namespace Go.Proofs.Ytnpcnafjjgkfgaa
open Go.RowKit
set_option linter.unusedVariables false

def thId (id tm x y : Int) (l : List (Int × Int)) : Int := if castB ⟨id, tm, x, y, l⟩ = true then id else 0
def thTm (id tm x y : Int) (l : List (Int × Int)) : Int := if castB ⟨id, tm, x, y, l⟩ = true then tm else 0
def thX (id tm x y : Int) (l : List (Int × Int)) : Int := if castB ⟨id, tm, x, y, l⟩ = true then x else 0
def thY (id tm x y : Int) (l : List (Int × Int)) : Int := if castB ⟨id, tm, x, y, l⟩ = true then y else 0
def thLs (id tm x y : Int) (l : List (Int × Int)) : List (Int × Int) := if castB ⟨id, tm, x, y, l⟩ = true then thin l else []
def thOk (id tm x y : Int) (l : List (Int × Int)) : Bool := castB ⟨id, tm, x, y, l⟩
theorem thLs_len (id tm x y : Int) (l : List (Int × Int)) (h : l.length ≤ 1048576) : (thLs id tm x y l).length ≤ 1048576 := by
  unfold thLs
  split
  · exact Nat.le_trans (thinK_len l l.length) h
  · exact Nat.zero_le _
def CastPost (id tm x y : Int) (L : List (Int × Int)) (K : Bool) (w : World) (e : Ending) (w' : World) : Prop :=
  ∃ A c, e = .returned (.tuple #[.agg #[.int .i64 id, .int .i64 tm, .int .i64 x, .int .i64 y, .slice A L.length c], .bool K]) ∧ Own2 w' w.heap.size w'.heap.size A L.length L ∧ Below w.heap.size w w' ∧ (L.length ≤ c ∧ c ≤ maxLen)
def ThPost (id tm x y : Int) (l : List (Int × Int)) : World → Ending → World → Prop := CastPost (thId id tm x y l) (thTm id tm x y l) (thX id tm x y l) (thY id tm x y l) (thLs id tm x y l) (thOk id tm x y l)
theorem th_no {id tm x y : Int} {l : List (Int × Int)} {w w' : World} (h : castB ⟨id, tm, x, y, l⟩ = false) (hb : Below w.heap.size w w') : ThPost id tm x y l w (.returned (.tuple #[.agg #[.int .i64 0, .int .i64 0, .int .i64 0, .int .i64 0, .slice none 0 0], .bool false])) w' := by
  unfold ThPost thId thTm thX thY thLs thOk CastPost
  rw [h]
  exact ⟨none, 0, rfl, Own2.nil _ _ _ _, hb, Nat.le_refl _, by unfold maxLen; exact Nat.zero_le _⟩
theorem th_yes {id tm x y : Int} {l : List (Int × Int)} {w w' : World} {A : Option Addr} {n c : Nat} (h : castB ⟨id, tm, x, y, l⟩ = true) (hn : n = (thin l).length) (ho : Own2 w' w.heap.size w'.heap.size A n (thin l)) (hb : Below w.heap.size w w') (hc : n ≤ c ∧ c ≤ maxLen) : ThPost id tm x y l w (.returned (.tuple #[.agg #[.int .i64 id, .int .i64 tm, .int .i64 x, .int .i64 y, .slice A n c], .bool true])) w' := by
  subst hn
  unfold ThPost thId thTm thX thY thLs thOk CastPost
  rw [h]
  exact ⟨A, c, rfl, ho, hb, hc⟩
theorem thinK_keep {l : List (Int × Int)} {k : Nat} {x y : Int} (hk : kept l k = true) (h : l[k]? = some (x, y)) : thinK l (k + 1) = thinK l k ++ [(x, y)] := by
  rw [thinK, hk, if_pos rfl, depAt_at h, spdAt_at h]
theorem row_capK {W : World} {B n cap : Nat} {T : TypeId} {z : Nat} {R : Option Addr} {xs : List Value} (h : W.ownsRow B T z (.slice R n cap) n xs) : n ≤ cap ∧ cap ≤ maxLen := by
  rcases h.2 with ⟨h1, h2⟩ | ⟨g, cap', cur, hv, _, _, hc, hm, _⟩
  · obtain ⟨-, -, rfl⟩ := Value.slice.inj h1
    unfold maxLen; omega
  · obtain ⟨-, -, rfl⟩ := Value.slice.inj hv
    exact ⟨hc, hm⟩
set_option maxRecDepth 20000 in
set_option maxHeartbeats 3200000 in
theorem thin_impl (id tm x0 y0 : Int) (A : Option Addr) (n c : Nat) (l : List (Int × Int)) (w : World) (hs : Spots w w.heap.size A n l) (hm : n ≤ maxLen) :
    Calls Try.prog 21 #[.agg #[.int .i64 id, .int .i64 tm, .int .i64 x0, .int .i64 y0, .slice A n c]] w (ThPost id tm x0 y0 l w) := by
  have HS := Lib.hid hs
  clear hs
  rcases hc : castB ⟨id, tm, x0, y0, l⟩ with _ | _
  · have HC := Lib.hid hc
    clear hc
    go_enter Try.func21, Try.ntmps21
    go_wp2_with fail
    refine (isC_v _ _ _ _ A n c l _ HC.out _ (spots_alloc (spots_alloc HS.out _) _) hm).mono ?_
    rintro e w1 ⟨rfl, hb⟩
    have HX := Lib.hid (box2 hb)
    clear hb
    have z0 := HX.out.2.2.at_ 0 _ rfl
    have z1 := HX.out.2.2.at_ 1 _ rfl
    have z2 := HX.out.2.2.at_ 2 _ rfl
    have z3 := HX.out.2.2.at_ 3 _ rfl
    have z4 := HX.out.2.2.at_ 4 _ rfl
    have f0 := HX.out.2.2.free 0
    have f1 := HX.out.2.2.free 1
    have f2 := HX.out.2.2.free 2
    have f3 := HX.out.2.2.free 3
    have f4 := HX.out.2.2.free 4
    go_wp2_with fail
    refine bodyPost_ret (v := .tuple #[.agg #[.int .i64 0, .int .i64 0, .int .i64 0, .int .i64 0, .slice none 0 0], .bool false]) (by simp [results, Try.results21, go_sem, z0, z1, z2, z3, z4]) rfl (th_no HC.out ?_)
    repeat (first | with_reducible exact HX.out.1 | refine Below.setCell ?_ (by simp; try omega) _)
  have HC := Lib.hid hc
  have hl := castB_lays hc
  simp only at hl
  have h1 := hl.one
  have h8 := hl.max
  clear hc
  obtain rfl := HS.out.1
  go_enter Try.func21, Try.ntmps21
  go_wp2_with fail
  refine (isC_v _ _ _ _ A _ c l _ HC.out _ (spots_alloc (spots_alloc HS.out _) _) hm).mono ?_
  rintro e w1 ⟨rfl, hb⟩
  have HX := Lib.hid (box2 hb)
  clear hb
  have a4 := HX.out.2.1.at_ 4 _ rfl
  go_wp2_with fail
  refine (clone_any A _ c l _ (spots_at HS.out HX.out.1) (by omega) (by omega)).mono ?_
  rintro e w2 ⟨g, cc, rfl, ho, hb⟩
  have HB2 := Lib.hid (bthen HX.out.1 hb HX.out.1.size)
  have HO2 := Lib.hid (own2_of_row ho rfl)
  have HCap := Lib.hid (row_capK ho)
  have HA2 := Lib.hid (HX.out.2.1.next hb)
  have HR2 := Lib.hid (HX.out.2.2.next hb)
  have hz2 : w1.heap.size ≤ w2.heap.size := hb.size
  have hz1 : w.heap.size + 1 < w1.heap.size := HX.out.2.2.1
  clear ho hb a4
  go_wp2_with fail
  refine (compact_any g cc w1.heap.size l w2 HO2.out hl HCap.out.1 HCap.out.2 hz2).mono ?_
  rintro e w3 ⟨g3, c3, rfl, ho, hb, hcc⟩
  have HO3 := Lib.hid ho
  have HC3 := Lib.hid hcc
  have HB3 := Lib.hid (HB2.out.trans (hb.mono (by omega)))
  have HA3 := Lib.hid (HA2.out.on hb (by omega))
  have HR3 := Lib.hid (HR2.out.on hb (by omega))
  have hz3 : w2.heap.size ≤ w3.heap.size := hb.size
  clear ho hcc hb
  have a4 := HA3.out.at_ 4 _ rfl
  have af4 := HA3.out.free 4
  have a0 := HA3.out.at_ 0 _ rfl
  have a1 := HA3.out.at_ 1 _ rfl
  have a2 := HA3.out.at_ 2 _ rfl
  have a3 := HA3.out.at_ 3 _ rfl
  have z0 := HR3.out.at_ 0 _ rfl
  have z1 := HR3.out.at_ 1 _ rfl
  have z2 := HR3.out.at_ 2 _ rfl
  have z3 := HR3.out.at_ 3 _ rfl
  have z4 := HR3.out.at_ 4 _ rfl
  have f0 := HR3.out.free 0
  have f1 := HR3.out.free 1
  have f2 := HR3.out.free 2
  have f3 := HR3.out.free 3
  have f4 := HR3.out.free 4
  go_wp2_with fail
  refine bodyPost_ret (v := .tuple #[.agg #[.int .i64 id, .int .i64 tm, .int .i64 x0, .int .i64 y0, .slice (some ⟨g3, 0, none⟩) (thin l).length c3], .bool true]) (by simp [results, Try.results21, go_sem, z0, z1, z2, z3, z4]) rfl (th_yes HC.out rfl ?_ ?_ HC3.out)
  · refine ((((((HO3.out.put _ _ ?_).put _ _ ?_).put _ _ ?_).put _ _ ?_).put _ _ ?_).put _ _ ?_).wide ?_ ?_
    all_goals (try simp [World.setCell])
    all_goals (try omega)
  · repeat (first | with_reducible exact HB3.out | refine Below.setCell ?_ (by simp; try omega) _)
set_option maxRecDepth 20000 in
set_option maxHeartbeats 3200000 in
theorem thin_spec (id tm x0 y0 : Int) (A : Option Addr) (n c : Nat) (l : List (Int × Int)) (w : World) (hs : Spots w w.heap.size A n l) (hm : n ≤ maxLen) :
    Calls Try.prog 22 #[.agg #[.int .i64 id, .int .i64 tm, .int .i64 x0, .int .i64 y0, .slice A n c]] w (ThPost id tm x0 y0 l w) := by
  obtain ⟨i0, hi, hz0, hz1, hz2⟩ := info_parts infoLayer2
  have HI := Lib.hid (And.intro hi (And.intro hz0 (And.intro hz1 hz2)))
  clear hi hz0 hz1 hz2
  have HS := Lib.hid hs
  clear hs
  rcases hc : castB ⟨id, tm, x0, y0, l⟩ with _ | _
  · have HC := Lib.hid hc
    clear hc
    go_enter Try.func22, Try.ntmps22
    go_wp2_with fail
    refine (one_v _ _ _ _ A n c l _ HC.out _ (spots_alloc (spots_alloc HS.out _) _) hm).mono ?_
    rintro e w1 ⟨rfl, hb⟩
    have HX := Lib.hid (box2 hb)
    clear hb
    have z0 := HX.out.2.2.at_ 0 _ rfl
    have z1 := HX.out.2.2.at_ 1 _ rfl
    have z2 := HX.out.2.2.at_ 2 _ rfl
    have z3 := HX.out.2.2.at_ 3 _ rfl
    have z4 := HX.out.2.2.at_ 4 _ rfl
    have f0 := HX.out.2.2.free 0
    have f1 := HX.out.2.2.free 1
    have f2 := HX.out.2.2.free 2
    have f3 := HX.out.2.2.free 3
    have f4 := HX.out.2.2.free 4
    go_wp2_with fail
    refine bodyPost_ret (v := .tuple #[.agg #[.int .i64 0, .int .i64 0, .int .i64 0, .int .i64 0, .slice none 0 0], .bool false]) (by simp [results, Try.results22, go_sem, z0, z1, z2, z3, z4]) rfl (th_no HC.out ?_)
    repeat (first | with_reducible exact HX.out.1 | refine Below.setCell ?_ (by simp; try omega) _)
  have HC := Lib.hid hc
  have hl := castB_lays hc
  simp only at hl
  have h1 := hl.one
  have h8 := hl.max
  clear hc
  obtain rfl := HS.out.1
  go_enter Try.func22, Try.ntmps22
  go_wp2_with fail
  refine (one_v _ _ _ _ A _ c l _ HC.out _ (spots_alloc (spots_alloc HS.out _) _) hm).mono ?_
  rintro e w1 ⟨rfl, hb⟩
  have HX := Lib.hid (box2 hb)
  have HS1 := Lib.hid (spots_at HS.out (box2 hb).1)
  have hz1 : w.heap.size + 1 < w1.heap.size := (box2 hb).2.2.1
  clear hb
  have a0 := HX.out.2.1.at_ 0 _ rfl
  have a1 := HX.out.2.1.at_ 1 _ rfl
  have a2 := HX.out.2.1.at_ 2 _ rfl
  have a3 := HX.out.2.1.at_ 3 _ rfl
  have a4 := HX.out.2.1.at_ 4 _ rfl
  have hbx := box1 (w := w1) (cs := #[.int .i64 id, .int .i64 tm, .int .i64 x0, .int .i64 y0, .slice none 0 0]) (T := 28) (Below.refl _ _)
  have HA1 : Hid (Acc w1 84 2 [.int .i64 id, .int .i64 tm, .int .i64 x0, .int .i64 y0, .slice none 0 0] (.slice none 0 0) (thinK l 0).length (cells2 (thinK l 0)) (w1.alloc (.cells #[.int .i64 id, .int .i64 tm, .int .i64 x0, .int .i64 y0, .slice none 0 0] 28))) := Lib.hid (acc_nil 84 2 hbx.1 hbx.2)
  clear hbx
  go_wp2_with fail
  clear a0 a1 a2 a3 a4
  go_loopw [5] (fun i wr => ∃ (k : Nat) (v : Value), k ≤ l.length ∧ i = .int .i64 k ∧ Hid (Acc w1 84 2 [.int .i64 id, .int .i64 tm, .int .i64 x0, .int .i64 y0, v] v (thinK l k).length (cells2 (thinK l k)) wr)) (fun i _ => l.length - (intOf i).toNat)
  case atStart => exact ⟨0, _, Nat.zero_le _, rfl, HA1⟩
  case round =>
    obtain ⟨k, v, hk, rfl, hR⟩ := hrel
    have HGr := Lib.hid (HX.out.2.1.next hR.out.2.1)
    have a4 := HGr.out.at_ 4 _ rfl
    obtain ⟨A2, c2, rfl⟩ := own_slice hR.out.1
    have hmk : (thinK l k).length ≤ 8 := Nat.le_trans (thinK_len l k) (by omega)
    by_cases hlt : k < l.length
    · have HSk := Lib.hid (spots_more HS1.out hR.out.2.1)
      obtain ⟨b0, o0, x, y, rfl, hb0, hl0, c0, c1⟩ := HSk.out.2 k hlt
      have HK := Lib.hid hl0
      clear hl0
      obtain ⟨W0, rfl⟩ : ∃ W : World, W = wr := ⟨_, rfl⟩
      rcases k with _ | j
      · simp only [Nat.zero_mul, Nat.add_zero] at c0 c1
        have hkp : kept l 0 = true := rfl
        have HTK : Hid (thinK l (0 + 1) = thinK l 0 ++ [(x, y)]) := Lib.hid (thinK_keep hkp HK.out)
        have HTL : Hid ((thinK l (0 + 1)).length = (thinK l 0).length + 1) := by unfold Hid; rw [thinK_keep hkp HK.out, List.length_append]; rfl
        clear hkp
        go_wp2_with fail
        have lc0 := lcell (a4)
        refine region_later (W := W0) (by kernel_rfl) (by kernel_rfl) (Below.refl _ _) ?_
        repeat (go_big_quiet_step (fail))
        refine wpQuiet_nil ?_
        intro W2 hW1
        have HL : Hid (Below W0.heap.size W0 W2) := by obtain ⟨x, rfl⟩ := hW1; exact Lib.hid x.below
        clear hW1 lc0
        have HR2 := Lib.hid (hR.out.next HL.out)
        have o4 := HR2.out.2.2.at_ 4 _ rfl
        have a4' := (HGr.out.next HL.out).at_ 4 _ rfl
        replace c0 := cell_next HL.out c0
        replace c1 := cell_next HL.out c1
        clear a4
        go_wp2_with fail
        have lc0 := lcell (o4)
        have lc1 := lcell (a4')
        have lc2 := lcell (c0)
        have lc3 := lcell (c1)
        refine region_mid (W := W2) 7 (by kernel_rfl) (by kernel_rfl) (Below.refl _ _) (fun d _ _ _ _ h => by cases d <;> exact h) ?_
        simp only [List.take_succ_cons, List.take_zero, List.drop_succ_cons, List.drop_zero]
        repeat (go_big_quiet_step (fail))
        refine wpQuiet_nil ?_
        intro W3 hW1
        have HL : Hid (Below W2.heap.size W2 W3) := by obtain ⟨x, rfl⟩ := hW1; exact Lib.hid x.below
        clear hW1 lc0 lc1 lc2 lc3
        refine wpOp_step rfl (fun K hK => ?_)
        rw [if_pos (by rfl)]
        go_simp
        refine hK _ _ ⟨⟨⟨_, HL.out.alloc HL.out.size _⟩, rfl⟩, ?_⟩
        clear hK K
        have HR3 := Lib.hid (HR2.out.next HL.out)
        clear c0 c1 a4' o4
        refine wpList_append_own _ rfl _ _ 26 rfl (w1.heap.size + 1) 84 i0 (.agg #[.int .i64 0, .int .i64 0]) 2 16 Try.underlying26 HI.out.1 HI.out.2.1 HI.out.2.2.1 HI.out.2.2.2 rfl (by decide) _ _ _ rfl (HR3.out.1.alloc _) ⟨W3.heap.size, 0, none⟩ 1 1 [.int .i64 x, .int .i64 y] rfl rfl (two_new _ _ _ _) (by simp [Value.oneCell']) (by unfold maxLen; omega) (by omega) (by have := HR3.out.2.1.size; have := HR3.out.2.2.1; simp; omega) ?_
        intro v' w5 hown' hgrow _
        obtain ⟨R', cap', rfl⟩ := own_slice hown'
        have HN := Lib.hid ((HR3.out.step hown' hgrow).put 4 (.slice R' ((thinK l 0).length + 1) cap'))
        have o4' := (HR3.out.step hown' hgrow).2.2.at_ 4 _ rfl
        have of4 := (HR3.out.step hown' hgrow).2.2.free 4
        clear hown' hgrow
        go_wp2_with fail
        have HN3 : Hid (Acc w1 84 2 [.int .i64 id, .int .i64 tm, .int .i64 x0, .int .i64 y0, .slice R' ((thinK l 0).length + 1) cap'] (.slice R' ((thinK l 0).length + 1) cap') (thinK l (0 + 1)).length (cells2 (thinK l (0 + 1))) (w5.setCell ⟨w1.heap.size, 4, none⟩ (.slice R' ((thinK l 0).length + 1) cap'))) := by unfold Hid; rw [HTL.out, HTK.out, cells2_snoc]; exact HN.out
        clear o4' of4
        go_roundw
        case rel => exact ⟨0 + 1, _, by omega, by go_num, HN3⟩
        case measure => simp [intOf]; omega
      · obtain ⟨b', o', x', y', hA', hb', hl', d0, d1⟩ := HSk.out.2 j (by omega)
        obtain ⟨rfl, rfl⟩ : b0 = b' ∧ o0 = o' := by injection hA' with h; injection h with h h'; exact ⟨h, h'⟩
        have hk0 : ((j : Int) + 1 == 0) = false := beq_eq_false_iff_ne.2 (by omega)
        have HKP := Lib.hid (kept_at HK.out hl')
        clear hA' hl'
        by_cases hy : y = y'
        · subst hy
          have HTK : Hid (thinK l (j + 1 + 1) = thinK l (j + 1)) := by
            have e : kept l (j + 1) = false := by rw [HKP.out]; simp
            unfold Hid
            rw [thinK, e]; rfl
          go_wp2_with fail
          have lc0 := lcell (a4)
          have lc1 := lcell (c1)
          have lc2 := lcell (d1)
          refine region_later (W := W0) (by kernel_rfl) (by kernel_rfl) (Below.refl _ _) ?_
          repeat (go_big_quiet_step (fail))
          refine wpQuiet_nil ?_
          intro W2 hW1
          have HL : Hid (Below W0.heap.size W0 W2) := by obtain ⟨x, rfl⟩ := hW1; exact Lib.hid x.below
          clear hW1 lc0 lc1 lc2
          have HR2 := Lib.hid (hR.out.next HL.out)
          go_wp2_with fail
          have hn3 := HR2.out
          rw [← HTK.out] at hn3
          have HN3 := Lib.hid hn3
          clear hn3
          go_roundw
          case rel => exact ⟨j + 1 + 1, _, by omega, by go_num, HN3⟩
          case measure => simp [intOf]; omega
        · have hkp : kept l (j + 1) = true := by rw [HKP.out, beq_eq_false_iff_ne.2 hy]; rfl
          have hne : (y' != y) = true := bne_iff_ne.2 (fun q => hy q.symm)
          have HTK : Hid (thinK l ((j + 1) + 1) = thinK l (j + 1) ++ [(x, y)]) := Lib.hid (thinK_keep hkp HK.out)
          have HTL : Hid ((thinK l ((j + 1) + 1)).length = (thinK l (j + 1)).length + 1) := by unfold Hid; rw [thinK_keep hkp HK.out, List.length_append]; rfl
          clear hkp
          go_wp2_with fail
          have lc0 := lcell (a4)
          have lc1 := lcell (c1)
          have lc2 := lcell (d1)
          refine region_later (W := W0) (by kernel_rfl) (by kernel_rfl) (Below.refl _ _) ?_
          repeat (go_big_quiet_step (fail))
          refine wpQuiet_nil ?_
          intro W2 hW1
          have HL : Hid (Below W0.heap.size W0 W2) := by obtain ⟨x, rfl⟩ := hW1; exact Lib.hid x.below
          clear hW1 lc0 lc1 lc2
          have HR2 := Lib.hid (hR.out.next HL.out)
          clear d0 d1
          have o4 := HR2.out.2.2.at_ 4 _ rfl
          have a4' := (HGr.out.next HL.out).at_ 4 _ rfl
          replace c0 := cell_next HL.out c0
          replace c1 := cell_next HL.out c1
          clear a4
          go_wp2_with fail
          have lc0 := lcell (o4)
          have lc1 := lcell (a4')
          have lc2 := lcell (c0)
          have lc3 := lcell (c1)
          refine region_mid (W := W2) 7 (by kernel_rfl) (by kernel_rfl) (Below.refl _ _) (fun d _ _ _ _ h => by cases d <;> exact h) ?_
          simp only [List.take_succ_cons, List.take_zero, List.drop_succ_cons, List.drop_zero]
          repeat (go_big_quiet_step (fail))
          refine wpQuiet_nil ?_
          intro W3 hW1
          have HL : Hid (Below W2.heap.size W2 W3) := by obtain ⟨x, rfl⟩ := hW1; exact Lib.hid x.below
          clear hW1 lc0 lc1 lc2 lc3
          refine wpOp_step rfl (fun K hK => ?_)
          rw [if_pos (by rfl)]
          go_simp
          refine hK _ _ ⟨⟨⟨_, HL.out.alloc HL.out.size _⟩, rfl⟩, ?_⟩
          clear hK K
          have HR3 := Lib.hid (HR2.out.next HL.out)
          clear c0 c1 a4' o4
          refine wpList_append_own _ rfl _ _ 26 rfl (w1.heap.size + 1) 84 i0 (.agg #[.int .i64 0, .int .i64 0]) 2 16 Try.underlying26 HI.out.1 HI.out.2.1 HI.out.2.2.1 HI.out.2.2.2 rfl (by decide) _ _ _ rfl (HR3.out.1.alloc _) ⟨W3.heap.size, 0, none⟩ 1 1 [.int .i64 x, .int .i64 y] rfl rfl (two_new _ _ _ _) (by simp [Value.oneCell']) (by unfold maxLen; omega) (by omega) (by have := HR3.out.2.1.size; have := HR3.out.2.2.1; simp; omega) ?_
          intro v' w5 hown' hgrow _
          obtain ⟨R', cap', rfl⟩ := own_slice hown'
          have HN := Lib.hid ((HR3.out.step hown' hgrow).put 4 (.slice R' ((thinK l (j + 1)).length + 1) cap'))
          have o4' := (HR3.out.step hown' hgrow).2.2.at_ 4 _ rfl
          have of4 := (HR3.out.step hown' hgrow).2.2.free 4
          clear hown' hgrow
          go_wp2_with fail
          have HN3 : Hid (Acc w1 84 2 [.int .i64 id, .int .i64 tm, .int .i64 x0, .int .i64 y0, .slice R' ((thinK l (j + 1)).length + 1) cap'] (.slice R' ((thinK l (j + 1)).length + 1) cap') (thinK l ((j + 1) + 1)).length (cells2 (thinK l ((j + 1) + 1))) (w5.setCell ⟨w1.heap.size, 4, none⟩ (.slice R' ((thinK l (j + 1)).length + 1) cap'))) := by unfold Hid; rw [HTL.out, HTK.out, cells2_snoc]; exact HN.out
          clear o4' of4
          go_roundw
          case rel => exact ⟨(j + 1) + 1, _, by omega, by go_num, HN3⟩
          case measure => simp [intOf]; omega
    · obtain rfl : k = l.length := by omega
      have hR' := hR.out
      rw [show thinK l l.length = thin l from rfl] at hR' hmk
      have HR1 := Lib.hid hR'
      clear hR'
      have HO := Lib.hid (own2_of_row HR1.out.1 rfl)
      have HCp := Lib.hid (row_capK HR1.out.1)
      have HZr := Lib.hid (HX.out.2.2.next HR1.out.2.1)
      have HBr := Lib.hid (bthen HX.out.1 HR1.out.2.1 HX.out.1.size)
      have hsr : w1.heap.size ≤ wr.heap.size := HR1.out.2.1.size
      have p0 := HR1.out.2.2.at_ 0 _ rfl
      have p1 := HR1.out.2.2.at_ 1 _ rfl
      have p2 := HR1.out.2.2.at_ 2 _ rfl
      have p3 := HR1.out.2.2.at_ 3 _ rfl
      have p4 := HR1.out.2.2.at_ 4 _ rfl
      have z0 := HZr.out.at_ 0 _ rfl
      have z1 := HZr.out.at_ 1 _ rfl
      have z2 := HZr.out.at_ 2 _ rfl
      have z3 := HZr.out.at_ 3 _ rfl
      have z4 := HZr.out.at_ 4 _ rfl
      have f0 := HZr.out.free 0
      have f1 := HZr.out.free 1
      have f2 := HZr.out.free 2
      have f3 := HZr.out.free 3
      have f4 := HZr.out.free 4
      go_wp2_with fail
      refine bodyPost_ret (v := .tuple #[.agg #[.int .i64 id, .int .i64 tm, .int .i64 x0, .int .i64 y0, .slice A2 (thin l).length c2], .bool true]) (by simp [results, Try.results22, go_sem, z0, z1, z2, z3, z4]) rfl (th_yes HC.out rfl ?_ ?_ HCp.out)
      · refine (((((HO.out.put _ _ ?_).put _ _ ?_).put _ _ ?_).put _ _ ?_).put _ _ ?_).wide ?_ ?_
        all_goals (try simp [World.setCell])
        all_goals (try omega)
      · repeat (first | with_reducible exact HBr.out | refine Below.setCell ?_ (by simp; try omega) _)
end Go.Proofs.Ytnpcnafjjgkfgaa
