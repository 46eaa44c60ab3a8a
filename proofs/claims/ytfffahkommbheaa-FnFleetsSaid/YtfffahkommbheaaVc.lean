/-
  The fastest craft that floats and has fuel: contracts of impl.hasFuelFor, impl.CraftFor, spec.CraftFor over this translation. Conditions: stated at each theorem.
-/
import Derived.Test.YtfffahkommbheaaVt
import Derived.Test.YtfffahkommbheaaVs
import Derived.Test.YtfffahkommbheaaVf
namespace Go.Proofs.Ytfffahkommbheaa
open Go.RowKit

def hfB (v : CC) (m : Int) : Bool := secK v m && decide (secU v m ≤ 60 * v.fu)
def okF (d m : Int) (v : CC) : Bool := decide (v.dr ≤ d) && hfB v m
def zC : CC := ⟨0, ⟨#[]⟩, 0, 0, 0, 0, 0⟩
/-- The fastest of the first k craft that float and have fuel, the first one on ties; the zero craft for none. -/
def cfS (L : List CC) (m d : Int) : Nat → CC
  | 0 => zC
  | k + 1 => if okF d m (cOf L k) && decide ((cfS L m d k).sp < (cOf L k).sp) then cOf L k else cfS L m d k
theorem cfS_yes {L : List CC} {m d : Int} {k : Nat} {u v : CC} (hv : L[k]? = some v) (hu : u = cfS L m d k) (h1 : v.dr ≤ d) (h2 : hfB v m = true) (h3 : u.sp < v.sp) : v = cfS L m d (k + 1) := by
  rw [cfS, cOf_at hv, ← hu, okF, decide_eq_true h1, h2, decide_eq_true h3]; rfl
theorem cfS_d {L : List CC} {m d : Int} {k : Nat} {u v : CC} (hv : L[k]? = some v) (hu : u = cfS L m d k) (h1 : ¬ v.dr ≤ d) : u = cfS L m d (k + 1) := by
  rw [cfS, cOf_at hv, ← hu, okF, decide_eq_false h1]; rfl
theorem cfS_f {L : List CC} {m d : Int} {k : Nat} {u v : CC} (hv : L[k]? = some v) (hu : u = cfS L m d k) (h2 : hfB v m = false) : u = cfS L m d (k + 1) := by
  rw [cfS, cOf_at hv, ← hu, okF, h2, Bool.and_false]; rfl
theorem cfS_s {L : List CC} {m d : Int} {k : Nat} {u v : CC} (hv : L[k]? = some v) (hu : u = cfS L m d k) (h3 : ¬ u.sp < v.sp) : u = cfS L m d (k + 1) := by
  rw [cfS, cOf_at hv, ← hu, decide_eq_false h3, Bool.and_false]; rfl
theorem cfS_none {L : List CC} {m d : Int} (h : inB m 0 100000 = false) (k : Nat) : cfS L m d k = zC := by
  induction k with
  | zero => rfl
  | succ k ih =>
    have : okF d m (cOf L k) = false := by unfold okF hfB secK; rw [h]; simp
    rw [cfS, this, ih]; rfl
def cfK (L : List CC) (d : Int) : Bool := areC L && inB d (-1000) 20000
def cfV (L : List CC) (m d : Int) : Int := if cfK L d then (cfS L m d L.length).id else 0
def CfPost (L : List CC) (m d : Int) (w : World) (e : Ending) (w' : World) : Prop := e = .returned (.tuple #[.int .i64 (cfV L m d), .bool (decide (0 < cfV L m d))]) ∧ Below w.heap.size w w'
theorem cf_no {L : List CC} {m d : Int} {w w' : World} (hk : cfK L d = false) (hb : Below w.heap.size w w') : CfPost L m d w (.returned (.tuple #[.int .i64 0, .bool false])) w' := ⟨by unfold cfV; rw [hk]; rfl, hb⟩
theorem cf_m {L : List CC} {m d : Int} {w w' : World} (h : inB m 0 100000 = false) (hb : Below w.heap.size w w') : CfPost L m d w (.returned (.tuple #[.int .i64 0, .bool false])) w' := by
  have hv : cfV L m d = 0 := by unfold cfV; rw [cfS_none h]; split <;> rfl
  exact ⟨by rw [hv]; rfl, hb⟩
theorem cf_yes {L : List CC} {m d : Int} {u : CC} {w w' : World} (hk : cfK L d = true) (hu : u = cfS L m d L.length) (hb : Below w.heap.size w w') : CfPost L m d w (.returned (.tuple #[.int .i64 u.id, .bool (decide (0 < u.id))])) w' := by
  have hv : cfV L m d = u.id := by unfold cfV; rw [hk, if_pos rfl, hu]
  exact ⟨by rw [hv], hb⟩
theorem cf_zero {L : List CC} {m d : Int} {u : CC} {w w' : World} (hk : cfK L d = true) (hu : u = cfS L m d L.length) (hz : u = zC) (hb : Below w.heap.size w w') : CfPost L m d w (.returned (.tuple #[.int .i64 0, .bool false])) w' := by
  subst hz
  exact cf_yes hk hu hb
theorem cf_one {L : List CC} {m d : Int} {u : CC} {w w' : World} (hk : cfK L d = true) (hu : u = cfS L m d L.length) (h1 : 0 < u.id) (hb : Below w.heap.size w w') : CfPost L m d w (.returned (.tuple #[.int .i64 u.id, .bool true])) w' := by
  have := cf_yes hk hu hb
  rwa [decide_eq_true h1] at this
theorem cfK_1 {L : List CC} {d : Int} (h : areC L = false) : cfK L d = false := by unfold cfK; rw [h]; rfl
theorem cfK_2 {L : List CC} {d : Int} (h : inB d (-1000) 20000 = false) : cfK L d = false := by unfold cfK; rw [h, Bool.and_false]
theorem cfK_3 {L : List CC} {d : Int} (h1 : areC L = true) (h2 : inB d (-1000) 20000 = true) : cfK L d = true := by unfold cfK; rw [h1, h2]; rfl
set_option maxHeartbeats 1600000 in
theorem hasFuel_v (v : CC) (m : Int) (b : Bool) (h : hfB v m = b) (w : World) (hv : craftB v = true) (hn : v.nm.size ≤ maxLen) :
    Calls Try.prog 91 #[.agg #[.int .i64 v.id, .string v.nm, .int .i64 v.dr, .int .i64 v.ah, .int .i64 v.be, .int .i64 v.sp, .int .i64 v.fu], .int .i64 m] w fun e w' => e = .returned (.bool b) ∧ Below w.heap.size w w' := by
  have HX := Lib.hid (box1 (cs := #[.int .i64 v.id, .string v.nm, .int .i64 v.dr, .int .i64 v.ah, .int .i64 v.be, .int .i64 v.sp, .int .i64 v.fu]) (T := 31) (Below.refl _ _) (w := w))
  obtain ⟨_, _, _, _, _, ⟨f1, f2⟩, _⟩ := craftB_parts hv
  clear hv
  have a0 := HX.out.2.at_ 0 _ rfl
  have a1 := HX.out.2.at_ 1 _ rfl
  have a2 := HX.out.2.at_ 2 _ rfl
  have a3 := HX.out.2.at_ 3 _ rfl
  have a4 := HX.out.2.at_ 4 _ rfl
  have a5 := HX.out.2.at_ 5 _ rfl
  have a6 := HX.out.2.at_ 6 _ rfl
  rcases hk : secK v m with _ | _
  · have HR : Hid (b = false) := Lib.hid (by rw [← h]; unfold hfB; rw [hk]; rfl)
    have HK := Lib.hid hk
    obtain ⟨x, hx⟩ : ∃ x, secV v m = x := ⟨_, rfl⟩
    have HV := Lib.hid hx
    clear hk h hx
    go_enter Try.func91, Try.ntmps91
    go_wp2_with fail
    refine (secs_v v m x _ HV.out HK.out _ hn).mono ?_
    rintro e w1 ⟨rfl, hb⟩
    have HT := Lib.hid (bthen HX.out.1 hb HX.out.1.size)
    clear hb a0 a1 a2 a3 a4 a5 a6
    go_wp2_with fail
    go_ret
    exact ⟨ret_bool HR.out.symm, HT.out⟩
  · obtain ⟨x, hx⟩ : ∃ x, secU v m = x := ⟨_, rfl⟩
    have HR : Hid (b = decide (x ≤ 60 * v.fu)) := Lib.hid (by rw [← h, ← hx]; unfold hfB; rw [hk, Bool.true_and])
    have HV : Hid (secV v m = x) := Lib.hid (by unfold secV; rw [hk, if_pos rfl, hx])
    have HK := Lib.hid hk
    clear hk h hx
    go_enter Try.func91, Try.ntmps91
    go_wp2_with fail
    refine (secs_v v m x _ HV.out HK.out _ hn).mono ?_
    rintro e w1 ⟨rfl, hb⟩
    have HT := Lib.hid (bthen HX.out.1 hb HX.out.1.size)
    have b6 := (HX.out.2.next hb).at_ 6 _ rfl
    clear hb a0 a1 a2 a3 a4 a5 a6
    go_wp2_with fail
    go_ret
    exact ⟨ret_bool HR.out.symm, HT.out⟩
set_option maxRecDepth 20000 in
set_option maxHeartbeats 3200000 in
theorem cfor_impl (A : Option Addr) (n c : Nat) (L : List CC) (m d : Int) (w : World) (hs : Crafts w w.heap.size A n L) (hm : n ≤ maxLen) (hcap : n ≤ c) :
    Calls Try.prog 21 #[.slice A n c, .int .i64 m, .int .i64 d] w (CfPost L m d w) := by
  obtain rfl := hs.1
  have HS := Lib.hid hs
  clear hs
  rcases ha : areC L with _ | _
  · have HA := Lib.hid ha
    clear ha
    go_enter Try.func21, Try.ntmps21
    go_wp2_with fail
    refine (areC_v _ _ _ L _ HA.out _ HS.out hm hcap).mono ?_
    rintro e w1 ⟨rfl, hb⟩
    have HB1 := Lib.hid hb
    clear hb
    go_wp2_with fail
    go_ret2
    exact cf_no (cfK_1 HA.out) HB1.out
  rcases hd : inB d (-1000) 20000 with _ | _
  · have HA := Lib.hid ha
    have HD := Lib.hid hd
    clear ha hd
    go_enter Try.func21, Try.ntmps21
    go_wp2_with fail
    refine (areC_v _ _ _ L _ HA.out _ HS.out hm hcap).mono ?_
    rintro e w1 ⟨rfl, hb⟩
    have HB1 := Lib.hid hb
    clear hb
    go_wp2_with fail
    refine (isDepth_v _ _ HD.out _).mono ?_
    rintro e w' ⟨rfl, rfl⟩
    go_wp2_with fail
    go_ret2
    exact cf_no (cfK_2 HD.out) HB1.out
  have HA := Lib.hid ha
  have HD := Lib.hid hd
  have HK := Lib.hid (cfK_3 ha hd)
  have hl6 := (areC_parts ha).1
  clear ha hd
  go_enter Try.func21, Try.ntmps21
  go_wp2_with fail
  refine (areC_v _ _ _ L _ HA.out _ HS.out hm hcap).mono ?_
  rintro e w1 ⟨rfl, hb⟩
  have HB1 := Lib.hid hb
  clear hb
  obtain ⟨W0, hW0⟩ : ∃ W0, W0 = w1.alloc (.cells #[.int .i64 0, .string ⟨#[]⟩, .int .i64 0, .int .i64 0, .int .i64 0, .int .i64 0, .int .i64 0] 31) := ⟨_, rfl⟩
  have HW : Hid (Below w1.heap.size w1 W0 ∧ Has W0 w1.heap.size [.int .i64 0, .string ⟨#[]⟩, .int .i64 0, .int .i64 0, .int .i64 0, .int .i64 0, .int .i64 0]) := by rw [hW0]; exact box1 (Below.refl _ _)
  have HE := Lib.hid hW0
  have HB0 := Lib.hid (bthen HB1.out HW.out.1 HB1.out.size)
  have HM0 := Lib.hid HW.out.2
  clear hW0
  go_wp2_with fail
  refine (isDepth_v _ _ HD.out _).mono ?_
  rintro e w' ⟨rfl, rfl⟩
  go_wp2_with fail
  rw [← HE.out]
  go_loopw [22] (fun i wr => ∃ (k : Nat) (u : CC), k ≤ L.length ∧ i = .int .i64 k ∧ Hid (u = cfS L m d k) ∧ Hid (Has wr w1.heap.size [.int .i64 u.id, .string u.nm, .int .i64 u.dr, .int .i64 u.ah, .int .i64 u.be, .int .i64 u.sp, .int .i64 u.fu]) ∧ Hid (Below w.heap.size w wr)) (fun i _ => L.length - (intOf i).toNat)
  case atStart => exact ⟨0, zC, Nat.zero_le _, rfl, Lib.hid rfl, HM0, HB0⟩
  case round =>
    obtain ⟨k, u, hk, rfl, hu, hM, hB⟩ := hrel
    by_cases hlt : k < L.length
    · obtain ⟨b, o, v, rfl, hbl, hL, hn, c0, c1, c2, c3, c4, c5, c6⟩ := (crafts_at HS.out hB.out).2 k hlt
      have HX := Lib.hid hL
      have HV := Lib.hid (areC_at HA.out hL)
      obtain ⟨W2, hW2⟩ : ∃ W2, W2 = wr.alloc (.cells #[.int .i64 v.id, .string v.nm, .int .i64 v.dr, .int .i64 v.ah, .int .i64 v.be, .int .i64 v.sp, .int .i64 v.fu] 31) := ⟨_, rfl⟩
      have HW2 : Hid (Below wr.heap.size wr W2 ∧ Has W2 wr.heap.size [.int .i64 v.id, .string v.nm, .int .i64 v.dr, .int .i64 v.ah, .int .i64 v.be, .int .i64 v.sp, .int .i64 v.fu]) := by rw [hW2]; exact box1 (Below.refl _ _)
      have HB2 := Lib.hid (bthen hB.out HW2.out.1 hB.out.size)
      have HM2 := Lib.hid (hM.out.next HW2.out.1)
      have HE2 := Lib.hid hW2
      clear hL hW2
      go_upto_region 7 with fail
      rw [← HE2.out]
      clear c0 c1 c2 c3 c4 c5 c6
      have a0 := HW2.out.2.at_ 0 _ rfl
      have a1 := HW2.out.2.at_ 1 _ rfl
      have a2 := HW2.out.2.at_ 2 _ rfl
      have a3 := HW2.out.2.at_ 3 _ rfl
      have a4 := HW2.out.2.at_ 4 _ rfl
      have a5 := HW2.out.2.at_ 5 _ rfl
      have a6 := HW2.out.2.at_ 6 _ rfl
      by_cases hg : v.dr ≤ d
      · rcases hf : hfB v m with _ | _
        · have HF := Lib.hid hf
          have HN := Lib.hid (cfS_f HX.out hu.out hf)
          clear hf
          go_wp2_with fail
          refine (hasFuel_v v m _ HF.out _ HV.out hn).mono ?_
          rintro e w3 ⟨rfl, hb⟩
          have HB3 := Lib.hid (bthen HB2.out hb HB2.out.size)
          have HM3 := Lib.hid (HM2.out.next hb)
          clear hb a0 a1 a2 a3 a4 a5 a6
          go_wp2_with fail
          go_roundw
          case rel => exact ⟨k + 1, u, by omega, by go_num, HN, HM3, HB3⟩
          case measure => simp [intOf]; omega
        · have HF := Lib.hid hf
          clear hf
          by_cases hsp : u.sp < v.sp
          · have HN := Lib.hid (cfS_yes HX.out hu.out hg HF.out hsp)
            go_wp2_with fail
            refine (hasFuel_v v m _ HF.out _ HV.out hn).mono ?_
            rintro e w3 ⟨rfl, hb⟩
            have HB3 := Lib.hid (bthen HB2.out hb HB2.out.size)
            have HM3 := Lib.hid (HM2.out.next hb)
            have HW3 := Lib.hid (HW2.out.2.next hb)
            clear hb a0 a1 a2 a3 a4 a5 a6
            have a0 := HW3.out.at_ 0 _ rfl
            have a1 := HW3.out.at_ 1 _ rfl
            have a2 := HW3.out.at_ 2 _ rfl
            have a3 := HW3.out.at_ 3 _ rfl
            have a4 := HW3.out.at_ 4 _ rfl
            have a5 := HW3.out.at_ 5 _ rfl
            have a6 := HW3.out.at_ 6 _ rfl
            have z0 := HM3.out.at_ 0 _ rfl
            have z1 := HM3.out.at_ 1 _ rfl
            have z2 := HM3.out.at_ 2 _ rfl
            have z3 := HM3.out.at_ 3 _ rfl
            have z4 := HM3.out.at_ 4 _ rfl
            have z5 := HM3.out.at_ 5 _ rfl
            have z6 := HM3.out.at_ 6 _ rfl
            have f0 := HM3.out.free 0
            have f1 := HM3.out.free 1
            have f2 := HM3.out.free 2
            have f3 := HM3.out.free 3
            have f4 := HM3.out.free 4
            have f5 := HM3.out.free 5
            have f6 := HM3.out.free 6
            have HM4 := Lib.hid (HM3.out.lay rfl v)
            have HB4 := Lib.hid (setL_below [.int .i64 v.id, .string v.nm, .int .i64 v.dr, .int .i64 v.ah, .int .i64 v.be, .int .i64 v.sp, .int .i64 v.fu] HB3.out HB1.out.size 0)
            go_wp2_with fail
            go_roundw
            case rel => exact ⟨k + 1, v, by omega, by go_num, HN, HM4, HB4⟩
            case measure => simp [intOf]; omega
          · have HN := Lib.hid (cfS_s HX.out hu.out hsp)
            go_wp2_with fail
            refine (hasFuel_v v m _ HF.out _ HV.out hn).mono ?_
            rintro e w3 ⟨rfl, hb⟩
            have HB3 := Lib.hid (bthen HB2.out hb HB2.out.size)
            have HM3 := Lib.hid (HM2.out.next hb)
            have HW3 := Lib.hid (HW2.out.2.next hb)
            clear hb a0 a1 a2 a3 a4 a5 a6
            have a5 := HW3.out.at_ 5 _ rfl
            have z5 := HM3.out.at_ 5 _ rfl
            go_wp2_with fail
            go_roundw
            case rel => exact ⟨k + 1, u, by omega, by go_num, HN, HM3, HB3⟩
            case measure => simp [intOf]; omega
      · have HN := Lib.hid (cfS_d HX.out hu.out hg)
        go_wp2_with fail
        go_roundw
        case rel => exact ⟨k + 1, u, by omega, by go_num, HN, HM2, HB2⟩
        case measure => simp [intOf]; omega
    · obtain rfl : k = L.length := by omega
      obtain ⟨W1, rfl⟩ : ∃ W : World, W = wr := ⟨_, rfl⟩
      have a0 := hM.out.at_ 0 _ rfl
      go_wp2_with fail
      have lc0 := lcell (a0)
      refine region_later (W := W1) (by kernel_rfl) (by kernel_rfl) (Below.refl _ _) ?_
      repeat (go_big_quiet_step (fail))
      refine wpQuiet_nil ?_
      intro W4 hW1
      have HL : Hid (Below W1.heap.size W1 W4) := by obtain ⟨x, rfl⟩ := hW1; exact Lib.hid x.below
      clear hW1 lc0
      have HB4 := Lib.hid (bthen hB.out HL.out hB.out.size)
      clear a0
      go_wp2_with fail
      go_ret2
      exact cf_yes HK.out hu.out HB4.out
set_option maxRecDepth 20000 in
set_option maxHeartbeats 3200000 in
theorem cfor_spec (A : Option Addr) (n c : Nat) (L : List CC) (m d : Int) (w : World) (hs : Crafts w w.heap.size A n L) (hm : n ≤ maxLen) :
    Calls Try.prog 22 #[.slice A n c, .int .i64 m, .int .i64 d] w (CfPost L m d w) := by
  obtain rfl := hs.1
  have HS := Lib.hid hs
  clear hs
  rcases ha : areC L with _ | _
  · have HA := Lib.hid ha
    clear ha
    go_enter Try.func22, Try.ntmps22
    go_wp2_with fail
    refine (goodC_v _ _ _ L _ HA.out _ HS.out hm).mono ?_
    rintro e w1 ⟨rfl, hb⟩
    have HB1 := Lib.hid hb
    clear hb
    go_wp2_with fail
    go_ret2
    exact cf_no (cfK_1 HA.out) HB1.out
  rcases hq : inB m 0 100000 with _ | _
  · have HA := Lib.hid ha
    have HM := Lib.hid hq
    clear ha hq
    go_enter Try.func22, Try.ntmps22
    go_wp2_with fail
    refine (goodC_v _ _ _ L _ HA.out _ HS.out hm).mono ?_
    rintro e w1 ⟨rfl, hb⟩
    have HB1 := Lib.hid hb
    clear hb
    go_wp2_with fail
    refine (meters_v _ _ HM.out _).mono ?_
    rintro e w' ⟨rfl, rfl⟩
    go_wp2_with fail
    go_ret2
    exact cf_m HM.out HB1.out
  rcases hd : inB d (-1000) 20000 with _ | _
  · have HA := Lib.hid ha
    have HM := Lib.hid hq
    have HD := Lib.hid hd
    clear ha hd hq
    go_enter Try.func22, Try.ntmps22
    go_wp2_with fail
    refine (goodC_v _ _ _ L _ HA.out _ HS.out hm).mono ?_
    rintro e w1 ⟨rfl, hb⟩
    have HB1 := Lib.hid hb
    clear hb
    go_wp2_with fail
    refine (meters_v _ _ HM.out _).mono ?_
    rintro e w' ⟨rfl, rfl⟩
    go_wp2_with fail
    refine (l2Depth_v _ _ HD.out _).mono ?_
    rintro e w' ⟨rfl, rfl⟩
    go_wp2_with fail
    go_ret2
    exact cf_no (cfK_2 HD.out) HB1.out
  have HA := Lib.hid ha
  have HM := Lib.hid hq
  have HD := Lib.hid hd
  have HK := Lib.hid (cfK_3 ha hd)
  have hl6 := (areC_parts ha).1
  clear ha hd hq
  go_enter Try.func22, Try.ntmps22
  go_wp2_with fail
  refine (goodC_v _ _ _ L _ HA.out _ HS.out hm).mono ?_
  rintro e w1 ⟨rfl, hb⟩
  have HB1 := Lib.hid hb
  clear hb
  go_wp2_with fail
  refine (meters_v _ _ HM.out _).mono ?_
  rintro e w' ⟨rfl, rfl⟩
  go_wp2_with fail
  refine (l2Depth_v _ _ HD.out _).mono ?_
  rintro e w' ⟨rfl, rfl⟩
  go_wp2_with fail
  go_loopw [8, 9] (fun q i wr => ∃ (k : Nat) (u : CC), k ≤ L.length ∧ i = .int .i64 k ∧ Hid (u = cfS L m d k) ∧ ((q = .int .i64 (-1) ∧ Hid (u = zC)) ∨ ∃ j : Nat, j < k ∧ q = .int .i64 j ∧ Hid (L[j]? = some u)) ∧ Hid (Below w.heap.size w wr)) (fun _ i _ => L.length - (intOf i).toNat)
  case atStart => exact ⟨0, zC, Nat.zero_le _, rfl, Lib.hid rfl, .inl ⟨rfl, Lib.hid rfl⟩, HB1⟩
  case round =>
    obtain ⟨k, u, hk, rfl, hu, hbest, hB⟩ := hrel
    by_cases hlt : k < L.length
    · obtain ⟨b, o, v, rfl, hbl, hL, hn, c0, c1, c2, c3, c4, c5, c6⟩ := (crafts_at HS.out hB.out).2 k hlt
      have HX := Lib.hid hL
      have HV := Lib.hid (areC_at HA.out hL)
      obtain ⟨_, _, _, _, ⟨s1, s2⟩, ⟨f1, f2⟩, _⟩ := craftB_parts HV.out
      obtain ⟨W2, hW2⟩ : ∃ W2, W2 = wr.alloc (.cells #[.int .i64 v.id, .string v.nm, .int .i64 v.dr, .int .i64 v.ah, .int .i64 v.be, .int .i64 v.sp, .int .i64 v.fu] 31) := ⟨_, rfl⟩
      have HW2 : Hid (Below wr.heap.size wr W2 ∧ Has W2 wr.heap.size [.int .i64 v.id, .string v.nm, .int .i64 v.dr, .int .i64 v.ah, .int .i64 v.be, .int .i64 v.sp, .int .i64 v.fu]) := by rw [hW2]; exact box1 (Below.refl _ _)
      have HB2 := Lib.hid (bthen hB.out HW2.out.1 hB.out.size)
      have HE2 := Lib.hid hW2
      clear hL hW2
      go_upto_region 8 with fail
      rw [← HE2.out]
      clear c0 c1 c2 c3 c4 c5 c6
      have a0 := HW2.out.2.at_ 0 _ rfl
      have a1 := HW2.out.2.at_ 1 _ rfl
      have a2 := HW2.out.2.at_ 2 _ rfl
      have a3 := HW2.out.2.at_ 3 _ rfl
      have a4 := HW2.out.2.at_ 4 _ rfl
      have a5 := HW2.out.2.at_ 5 _ rfl
      have a6 := HW2.out.2.at_ 6 _ rfl
      obtain ⟨x, hx⟩ : ∃ x, secU v m = x := ⟨_, rfl⟩
      have HU := Lib.hid hx
      have hfx : hfB v m = decide (x ≤ 60 * v.fu) := by unfold hfB secK; rw [HV.out, HM.out, hx]; rfl
      clear hx
      by_cases hg : v.dr ≤ d
      · have hd1 : decide (v.dr ≤ d) = true := decide_eq_true hg
        by_cases hf : x ≤ 60 * v.fu
        · have hd2 : decide (x ≤ 60 * v.fu) = true := decide_eq_true hf
          have HF : Hid (hfB v m = true) := Lib.hid (hfx.trans hd2)
          clear hfx
          rcases hbest with ⟨rfl, hz⟩ | ⟨j, hj, rfl, hLj⟩
          · have HN := Lib.hid (cfS_yes HX.out hu.out hg HF.out (by rw [hz.out]; show (0 : Int) < v.sp; omega))
            have lc0 := lcell (a0)
            have lc1 := lcell (a1)
            have lc2 := lcell (a2)
            have lc3 := lcell (a3)
            have lc4 := lcell (a4)
            have lc5 := lcell (a5)
            have lc6 := lcell (a6)
            refine region_later (W := W2) (by kernel_rfl) (by kernel_rfl) (Below.refl _ _) ?_
            repeat (go_big_quiet_step (((go_at_call 94; exact later_call (seconds_any v m x HU.out _ HV.out HM.out)))))
            refine wpQuiet_nil ?_
            intro W3 hW1
            have HL : Hid (Below W2.heap.size W2 W3) := by obtain ⟨x, rfl⟩ := hW1; exact Lib.hid x.below
            clear hW1 lc0 lc1 lc2 lc3 lc4 lc5 lc6
            have HB3 := Lib.hid (bthen HB2.out HL.out HB2.out.size)
            clear a0 a1 a2 a3 a4 a5 a6 hd1 hd2
            go_wp2_with fail
            go_roundw
            case rel => exact ⟨k + 1, v, by omega, by go_num, HN, .inr ⟨k, by omega, rfl, HX⟩, HB3⟩
            case measure => simp [intOf]; omega
          · obtain ⟨b', o', u', hA, hbl', hL', hn', p0, p1, p2, p3, p4, p5, p6⟩ := (crafts_at HS.out HB2.out).2 j (by omega)
            obtain ⟨rfl, rfl⟩ : b = b' ∧ o = o' := by injection hA with h; injection h with h h'; exact ⟨h, h'⟩
            obtain rfl : u = u' := Option.some.inj (hLj.out.symm.trans hL')
            clear hA hL' hn' p0 p1 p2 p3 p4 p6
            have hd4 : decide ((j : Int) < 0) = false := decide_eq_false (by omega)
            by_cases hsp : u.sp < v.sp
            · have hd3 : decide (v.sp > u.sp) = true := decide_eq_true hsp
              have HN := Lib.hid (cfS_yes HX.out hu.out hg HF.out hsp)
              have lc0 := lcell (a0)
              have lc1 := lcell (a1)
              have lc2 := lcell (a2)
              have lc3 := lcell (a3)
              have lc4 := lcell (a4)
              have lc5 := lcell (a5)
              have lc6 := lcell (a6)
              have lc7 := lcell (p5)
              refine region_later (W := W2) (by kernel_rfl) (by kernel_rfl) (Below.refl _ _) ?_
              repeat (go_big_quiet_step (((go_at_call 94; exact later_call (seconds_any v m x HU.out _ HV.out HM.out)))))
              refine wpQuiet_nil ?_
              intro W3 hW1
              have HL : Hid (Below W2.heap.size W2 W3) := by obtain ⟨x, rfl⟩ := hW1; exact Lib.hid x.below
              clear hW1 lc0 lc1 lc2 lc3 lc4 lc5 lc6 lc7
              have HB3 := Lib.hid (bthen HB2.out HL.out HB2.out.size)
              clear a0 a1 a2 a3 a4 a5 a6 p5 hd1 hd2 hd3 hd4
              go_wp2_with fail
              go_roundw
              case rel => exact ⟨k + 1, v, by omega, by go_num, HN, .inr ⟨k, by omega, rfl, HX⟩, HB3⟩
              case measure => simp [intOf]; omega
            · have hd3 : decide (v.sp > u.sp) = false := decide_eq_false hsp
              have HN := Lib.hid (cfS_s HX.out hu.out hsp)
              have lc0 := lcell (a0)
              have lc1 := lcell (a1)
              have lc2 := lcell (a2)
              have lc3 := lcell (a3)
              have lc4 := lcell (a4)
              have lc5 := lcell (a5)
              have lc6 := lcell (a6)
              have lc7 := lcell (p5)
              refine region_later (W := W2) (by kernel_rfl) (by kernel_rfl) (Below.refl _ _) ?_
              repeat (go_big_quiet_step (((go_at_call 94; exact later_call (seconds_any v m x HU.out _ HV.out HM.out)))))
              refine wpQuiet_nil ?_
              intro W3 hW1
              have HL : Hid (Below W2.heap.size W2 W3) := by obtain ⟨x, rfl⟩ := hW1; exact Lib.hid x.below
              clear hW1 lc0 lc1 lc2 lc3 lc4 lc5 lc6 lc7
              have HB3 := Lib.hid (bthen HB2.out HL.out HB2.out.size)
              clear a0 a1 a2 a3 a4 a5 a6 p5 hd1 hd2 hd3 hd4
              go_wp2_with fail
              go_roundw
              case rel => exact ⟨k + 1, u, by omega, by go_num, HN, .inr ⟨j, by omega, rfl, hLj⟩, HB3⟩
              case measure => simp [intOf]; omega
        · have hd2 : decide (x ≤ 60 * v.fu) = false := decide_eq_false hf
          have HN := Lib.hid (cfS_f HX.out hu.out (hfx.trans hd2))
          clear hfx
          have HQ : Hid (∀ q : Value, ((q = .int .i64 (-1) ∧ Hid (u = zC)) ∨ ∃ j : Nat, j < k ∧ q = .int .i64 j ∧ Hid (L[j]? = some u)) → ((q = .int .i64 (-1) ∧ Hid (u = zC)) ∨ ∃ j : Nat, j < k + 1 ∧ q = .int .i64 j ∧ Hid (L[j]? = some u))) := Lib.hid fun q h => h.imp id fun ⟨j, h1, h2⟩ => ⟨j, by omega, h2⟩
          have HQ2 := Lib.hid (HQ.out _ hbest)
          clear hbest
          have lc0 := lcell (a0)
          have lc1 := lcell (a1)
          have lc2 := lcell (a2)
          have lc3 := lcell (a3)
          have lc4 := lcell (a4)
          have lc5 := lcell (a5)
          have lc6 := lcell (a6)
          refine region_later (W := W2) (by kernel_rfl) (by kernel_rfl) (Below.refl _ _) ?_
          repeat (go_big_quiet_step (((go_at_call 94; exact later_call (seconds_any v m x HU.out _ HV.out HM.out)))))
          refine wpQuiet_nil ?_
          intro W3 hW1
          have HL : Hid (Below W2.heap.size W2 W3) := by obtain ⟨x, rfl⟩ := hW1; exact Lib.hid x.below
          clear hW1 lc0 lc1 lc2 lc3 lc4 lc5 lc6
          have HB3 := Lib.hid (bthen HB2.out HL.out HB2.out.size)
          clear a0 a1 a2 a3 a4 a5 a6 hd1 hd2
          go_wp2_with fail
          go_roundw
          case rel => exact ⟨k + 1, u, by omega, by go_num, HN, HQ2.out, HB3⟩
          case measure => simp [intOf]; omega
      · have hd1 : decide (v.dr ≤ d) = false := decide_eq_false hg
        have HN := Lib.hid (cfS_d HX.out hu.out hg)
        clear hfx
        have HQ : Hid (∀ q : Value, ((q = .int .i64 (-1) ∧ Hid (u = zC)) ∨ ∃ j : Nat, j < k ∧ q = .int .i64 j ∧ Hid (L[j]? = some u)) → ((q = .int .i64 (-1) ∧ Hid (u = zC)) ∨ ∃ j : Nat, j < k + 1 ∧ q = .int .i64 j ∧ Hid (L[j]? = some u))) := Lib.hid fun q h => h.imp id fun ⟨j, h1, h2⟩ => ⟨j, by omega, h2⟩
        have HQ2 := Lib.hid (HQ.out _ hbest)
        clear hbest
        have lc0 := lcell (a0)
        have lc1 := lcell (a1)
        have lc2 := lcell (a2)
        have lc3 := lcell (a3)
        have lc4 := lcell (a4)
        have lc5 := lcell (a5)
        have lc6 := lcell (a6)
        refine region_later (W := W2) (by kernel_rfl) (by kernel_rfl) (Below.refl _ _) ?_
        repeat (go_big_quiet_step (fail))
        refine wpQuiet_nil ?_
        intro W3 hW1
        have HL : Hid (Below W2.heap.size W2 W3) := by obtain ⟨x, rfl⟩ := hW1; exact Lib.hid x.below
        clear hW1 lc0 lc1 lc2 lc3 lc4 lc5 lc6
        have HB3 := Lib.hid (bthen HB2.out HL.out HB2.out.size)
        clear a0 a1 a2 a3 a4 a5 a6 hd1
        go_wp2_with fail
        go_roundw
        case rel => exact ⟨k + 1, u, by omega, by go_num, HN, HQ2.out, HB3⟩
        case measure => simp [intOf]; omega
    · obtain rfl : k = L.length := by omega
      rcases hbest with ⟨rfl, hz⟩ | ⟨j, hj, rfl, hLj⟩
      · go_wp2_with fail
        go_ret2
        exact cf_zero HK.out hu.out hz.out hB.out
      · obtain ⟨b, o, u', rfl, hbl, hL, hn, c0, c1, c2, c3, c4, c5, c6⟩ := (crafts_at HS.out hB.out).2 j hj
        obtain rfl : u = u' := Option.some.inj (hLj.out.symm.trans hL)
        obtain ⟨⟨i1, _⟩, _⟩ := craftB_parts (areC_at HA.out hL)
        clear hL c1 c2 c3 c4 c5 c6
        go_wp2_with fail
        go_ret2
        exact cf_one HK.out hu.out (by omega) hB.out
end Go.Proofs.Ytfffahkommbheaa
