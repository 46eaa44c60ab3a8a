/-
  Contracts of impl.ShiftZero, spec.ShiftZero over this translation. Conditions: stated at each theorem.
-/
import Derived.Test.YtlggcfeclbcfaaaHigh
import Derived.Test.YtlggcfeclbcfaaaMid
namespace Go.Proofs.Ytlggcfeclbcfaaa
open Go.RowKit

def shP (ze to : Int) (p : Int × Int) : Int × Int := (p.1, wrap64 (p.2 + ze - to))
def shL (l : List (Int × Int)) (ze to : Int) : List (Int × Int) := l.map (shP ze to)
theorem shL_len (l : List (Int × Int)) (ze to : Int) : (shL l ze to).length = l.length := by simp [shL]
theorem shL_take {l : List (Int × Int)} {k : Nat} {x y : Int} (ze to : Int) (h : l[k]? = some (x, y)) : shL (l.take (k + 1)) ze to = shL (l.take k) ze to ++ [(x, wrap64 (y + ze - to))] := by
  obtain ⟨hk, he⟩ := List.getElem?_eq_some_iff.1 h
  unfold shL
  rw [List.take_succ_eq_append_getElem hk, he, List.map_append]
  rfl
theorem shL_full (l : List (Int × Int)) (ze to : Int) {k : Nat} (h : l.length ≤ k) : shL (l.take k) ze to = shL l ze to := by rw [List.take_of_length_le h]
def shK (id ze : Int) (nm : ByteArray) (l : List (Int × Int)) (to : Int) : Bool := gaugeB id nm ze l && inB to (-1000) 1000 && gaugeB id nm to (shL l ze to)
def shId (id ze : Int) (nm : ByteArray) (l : List (Int × Int)) (to : Int) : Int := if shK id ze nm l to then id else 0
def shNm (id ze : Int) (nm : ByteArray) (l : List (Int × Int)) (to : Int) : ByteArray := if shK id ze nm l to then nm else ⟨#[]⟩
def shZe (id ze : Int) (nm : ByteArray) (l : List (Int × Int)) (to : Int) : Int := if shK id ze nm l to then to else 0
def shLs (id ze : Int) (nm : ByteArray) (l : List (Int × Int)) (to : Int) : List (Int × Int) := if shK id ze nm l to then shL l ze to else []
theorem shLs_len (id ze : Int) (nm : ByteArray) (l : List (Int × Int)) (to : Int) (h : l.length ≤ 1048576) : (shLs id ze nm l to).length ≤ 1048576 := by
  unfold shLs
  split
  · rw [shL_len]; exact h
  · simp
def ShPost (id ze : Int) (nm : ByteArray) (l : List (Int × Int)) (to : Int) (w : World) : Ending → World → Prop :=
  GaugePost (shId id ze nm l to) (shNm id ze nm l to) (shZe id ze nm l to) (shLs id ze nm l to) (shK id ze nm l to) w
theorem sh_no {id ze : Int} {nm : ByteArray} {l : List (Int × Int)} {to : Int} {w w' : World} (h : shK id ze nm l to = false) (hb : Below w.heap.size w w') : ShPost id ze nm l to w (.returned (.tuple #[.agg #[.int .i64 0, .string ⟨#[]⟩, .int .i64 0, .slice none 0 0], .bool false])) w' := by
  unfold ShPost shId shNm shZe shLs
  rw [h]
  exact ⟨none, 0, rfl, Own2.nil _ _ _ _, hb, Nat.le_refl _⟩
theorem sh_yes {id ze : Int} {nm : ByteArray} {l : List (Int × Int)} {to : Int} {w w' : World} {A : Option Addr} {n c : Nat} (h : shK id ze nm l to = true) (ho : Own2 w' w.heap.size w'.heap.size A n (shL l ze to)) (hc : n ≤ c) (hb : Below w.heap.size w w') : ShPost id ze nm l to w (.returned (.tuple #[.agg #[.int .i64 id, .string nm, .int .i64 to, .slice A n c], .bool true])) w' := by
  unfold ShPost shId shNm shZe shLs
  rw [h]
  obtain rfl := ho.1
  exact ⟨A, c, rfl, ho, hb, hc⟩
theorem own_cap {W : World} {B e z n c : Nat} {A : Option Addr} {xs : List Value} (h : W.ownsRow B e z (.slice A n c) n xs) : n ≤ c := by
  rcases h.2 with ⟨h1, h2⟩ | ⟨g, cap, cur, hv, _, _, hle, _⟩
  · omega
  · injection hv with _ _ h3; omega

theorem zeroCells (w : World) (cs : Array Value) : Below w.heap.size w (w.alloc (.cells cs 26)) ∧ Has (w.alloc (.cells cs 26)) w.heap.size cs.toList := box1 (Below.refl _ _)
set_option maxRecDepth 20000 in
set_option maxHeartbeats 3200000 in
theorem shift_impl (id ze : Int) (nm : ByteArray) (A : Option Addr) (n c : Nat) (l : List (Int × Int)) (to : Int) (w : World) (hs : Spots w w.heap.size A n l) (hm : n ≤ maxLen) (hn : nm.size ≤ maxLen) :
    Calls Try.prog 13 #[.agg #[.int .i64 id, .string nm, .int .i64 ze, .slice A n c], .int .i64 to] w (ShPost id ze nm l to w) := by
  obtain rfl := hs.1
  obtain ⟨i0, hi, hz0, hz1, hz2⟩ := info_parts infoReading2
  have HI := Lib.hid (And.intro hi (And.intro hz0 (And.intro hz1 hz2)))
  clear hi hz0 hz1 hz2
  obtain ⟨U, hU⟩ : ∃ U, U = w.alloc (.cells #[.int .i64 id, .string nm, .int .i64 ze, .slice A l.length c] 26) := ⟨_, rfl⟩
  obtain ⟨V, hV⟩ : ∃ V, V = U.alloc (.cells #[.int .i64 0, .string ⟨#[]⟩, .int .i64 0, .slice none 0 0] 26) := ⟨_, rfl⟩
  have HU : Hid (Below w.heap.size w U ∧ Has U w.heap.size [.int .i64 id, .string nm, .int .i64 ze, .slice A l.length c] ∧ U.heap.size = w.heap.size + 1) := by rw [hU]; exact ⟨(zeroCells _ _).1, (zeroCells _ _).2, World.size_alloc _ _⟩
  have HV : Hid (Below U.heap.size U V ∧ Has V U.heap.size [.int .i64 0, .string ⟨#[]⟩, .int .i64 0, .slice none 0 0]) := by rw [hV]; exact zeroCells _ _
  have HVU : Hid (V = (w.alloc (.cells #[.int .i64 id, .string nm, .int .i64 ze, .slice A l.length c] 26)).alloc (.cells #[.int .i64 0, .string ⟨#[]⟩, .int .i64 0, .slice none 0 0] 26)) := by rw [hV, hU]; rfl
  have HS := Lib.hid hs
  have HSV := Lib.hid (spots_more (spots_more hs HU.out.1) HV.out.1)
  have HXV := Lib.hid (HU.out.2.1.next HV.out.1)
  have HBV := Lib.hid (bthen HU.out.1 HV.out.1 HU.out.1.size)
  have hsz : U.heap.size = w.heap.size + 1 := HU.out.2.2
  clear hs hV
  rcases hg : gaugeB id nm ze l with _ | _
  · have HG := Lib.hid hg
    have HR : Hid (shK id ze nm l to = false) := by unfold Hid shK; rw [hg]; rfl
    clear hg hU
    go_enter Try.func13, Try.ntmps13
    go_wp2_with fail
    rw [← HVU.out]
    refine (isGauge_v _ _ _ _ _ _ l _ HG.out _ HSV.out hm hn).mono ?_
    rintro e w1 ⟨rfl, hb⟩
    have HN := Lib.hid (And.intro (bthen HBV.out hb HBV.out.size) (HV.out.2.next hb))
    clear hb
    rw [hsz] at HN
    have z0 := HN.out.2.at_ 0 _ rfl
    have z1 := HN.out.2.at_ 1 _ rfl
    have z2 := HN.out.2.at_ 2 _ rfl
    have z3 := HN.out.2.at_ 3 _ rfl
    have zf0 := HN.out.2.free 0
    have zf1 := HN.out.2.free 1
    have zf2 := HN.out.2.free 2
    have zf3 := HN.out.2.free 3
    go_wp2_with fail
    refine bodyPost_ret (v := .tuple #[.agg #[.int .i64 0, .string ⟨#[]⟩, .int .i64 0, .slice none 0 0], .bool false]) (by simp [results, Try.results13, go_sem, z0, z1, z2, z3]) rfl (sh_no HR.out ?_)
    repeat (first | exact HN.out.1 | refine Below.setCell ?_ (by simp; try omega) _)
  have HG := Lib.hid hg
  have HGG := Lib.hid (good_of_gauge hg)
  have h15 := (good_of_gauge hg).2.2.2.1
  have hzb := inB_yes (good_of_gauge hg).2.2.1
  obtain ⟨hzb1, hzb2⟩ := hzb
  clear hg hU
  go_enter Try.func13, Try.ntmps13
  go_wp2_with fail
  rw [← HVU.out]
  refine (isGauge_v _ _ _ _ _ _ l _ HG.out _ HSV.out hm hn).mono ?_
  rintro e w1 ⟨rfl, hb⟩
  have HA1 := Lib.hid (acc_start 28 2 (bthen HV.out.1 hb HV.out.1.size) (HV.out.2.next hb))
  have HG1 := Lib.hid (HXV.out.next hb)
  clear hb
  have g3 := (HG1.out.alloc (.cells #[] 28)).at_ 3 _ rfl
  go_wp2_with fail
  go_loopw [6, 17] (fun s i wr => ∃ (k : Nat) (v : Value), k ≤ l.length ∧ i = .int .i64 k ∧ s = v ∧ Hid (Acc U 28 2 [.int .i64 0, .string ⟨#[]⟩, .int .i64 0, .slice none 0 0] v k (cells2 (shL (l.take k) ze to)) wr)) (fun _ i _ => l.length - (intOf i).toNat)
  case atStart => exact ⟨0, _, Nat.zero_le _, rfl, rfl, HA1⟩
  case round =>
    obtain ⟨k, v, hk, rfl, rfl, hR⟩ := hrel
    clear HG1 g3
    have HGr := Lib.hid (HU.out.2.1.on hR.out.2.1 (by have := HU.out.2.2; omega))
    by_cases hlt : k < l.length
    · obtain ⟨b0, o0, x, y, rfl, hb0, hl0, c0, c1⟩ := (spots_more (spots_more HS.out HU.out.1) hR.out.2.1).2 k hlt
      have HL := Lib.hid hl0
      have hbd := (read_at HGG.out.2.2.2.2 hlt).2
      rw [lv_of hl0] at hbd
      obtain ⟨hbd1, hbd2⟩ := hbd
      clear hl0
      have g2 := (HGr.out.alloc (.cells #[.int .i64 x, .int .i64 y] 28)).at_ 2 _ rfl
      have HR1 := Lib.hid (hR.out.next ((Below.refl _ _).alloc (Nat.le_refl _) (.cells #[.int .i64 x, .int .i64 y] 28)))
      go_wp2_with (at_builtin; go_loud (refine wpList_append_own _ rfl _ _ 24 rfl (U.heap.size + 1) 28 i0 (.agg #[.int .i64 0, .int .i64 0]) 2 16 Try.underlying24 HI.out.1 HI.out.2.1 HI.out.2.2.1 HI.out.2.2.2 rfl (by decide) _ _ _ rfl (HR1.out.1.alloc _) ⟨wr.heap.size + 1, 0, none⟩ 1 1 [.int .i64 x, .int .i64 (wrap64 (y + ze - to))] rfl rfl (by have h := two_new (wr.alloc (.cells #[.int .i64 x, .int .i64 y] 28)) (.int .i64 x) (.int .i64 (wrap64 (y + ze - to))) 28; rw [World.size_alloc] at h; exact h) (by simp [Value.oneCell']) (by unfold maxLen; omega) (by omega) (by have := hR.out.2.1.size; have := hR.out.2.2.1; simp; omega) ?_; intro v' w5 hown' hgrow _; have HN := Lib.hid (HR1.out.step hown' hgrow); clear hown' hgrow))
      have hn3 := HN.out
      rw [← cells2_snoc, ← shL_take ze to HL.out] at hn3
      have HN3 := Lib.hid hn3
      clear hn3 g2
      go_roundw
      case rel => exact ⟨k + 1, _, by omega, by go_num, rfl, HN3⟩
      case measure => simp [intOf]; omega
    · obtain rfl : k = l.length := by omega
      obtain ⟨A2, c2, rfl⟩ := own_slice hR.out.1
      have hR' := hR.out
      rw [shL_full l ze to (Nat.le_refl _)] at hR'
      have HR1 := Lib.hid hR'
      clear hR'
      have HO := Lib.hid ((own2_of_row HR1.out.1 (shL_len l ze to)))
      have HC := Lib.hid (own_cap HR1.out.1)
      obtain ⟨Y, hY⟩ : ∃ Y, Y = (wr.setCell ⟨w.heap.size, 2, none⟩ (.int .i64 to)).setCell ⟨w.heap.size, 3, none⟩ (.slice A2 l.length c2) := ⟨_, rfl⟩
      have HY : Hid (Has Y w.heap.size [.int .i64 id, .string nm, .int .i64 to, .slice A2 l.length c2] ∧ Has Y U.heap.size [.int .i64 0, .string ⟨#[]⟩, .int .i64 0, .slice none 0 0] ∧ Own2 Y (U.heap.size + 1) Y.heap.size A2 l.length (shL l ze to) ∧ Below w.heap.size w Y) := by
        have e1 := (HGr.out.set 2 (.int .i64 to)).set 3 (.slice A2 l.length c2)
        have e2 := (HR1.out.2.2.far (p := ⟨w.heap.size, 2, none⟩) (by simp; omega) (.int .i64 to)).far (p := ⟨w.heap.size, 3, none⟩) (by simp; omega) (.slice A2 l.length c2)
        have e3 := (HO.out.put ⟨w.heap.size, 2, none⟩ (.int .i64 to) (.inl (by simp; omega))).put ⟨w.heap.size, 3, none⟩ (.slice A2 l.length c2) (.inl (by simp; omega))
        have e4 := ((bthen HU.out.1 HR1.out.2.1 HU.out.1.size).setCell (p := ⟨w.heap.size, 2, none⟩) (Nat.le_refl _) (.int .i64 to)).setCell (p := ⟨w.heap.size, 3, none⟩) (Nat.le_refl _) (.slice A2 l.length c2)
        rw [hY]
        exact ⟨e1, e2, e3.wide (Nat.le_refl _) (by simp [World.setCell]), e4⟩
      have hlen := shL_len l ze to
      have HLEN := Lib.hid hlen
      clear hlen
      have p0 := HGr.out.at_ 0 _ rfl
      have p1 := HGr.out.at_ 1 _ rfl
      have p2 := HGr.out.at_ 2 _ rfl
      have p3 := HGr.out.at_ 3 _ rfl
      have pf0 := HGr.out.free 0
      have pf1 := HGr.out.free 1
      have pf2 := HGr.out.free 2
      have pf3 := HGr.out.free 3
      go_wp2_with fail
      rw [← hY]
      clear p0 p1 p2 p3 pf0 pf1 pf2 pf3
      have HYE := Lib.hid hY
      clear hY
      have HSY := Lib.hid (HY.out.2.2.1.spots (Nat.le_refl _))
      rcases hk2 : gaugeB id nm to (shL l ze to) with _ | _
      · have HG2 := Lib.hid hk2
        have HR2 : Hid (shK id ze nm l to = false) := by unfold Hid shK; rw [hk2, Bool.and_false]
        clear hk2
        have p0 := HY.out.1.at_ 0 _ rfl
        have p1 := HY.out.1.at_ 1 _ rfl
        have p2 := HY.out.1.at_ 2 _ rfl
        have p3 := HY.out.1.at_ 3 _ rfl
        go_wp2_with fail
        refine (isGauge_v _ _ _ _ _ _ (shL l ze to) _ HG2.out _ HSY.out hm hn).mono ?_
        rintro e w6 ⟨rfl, hb⟩
        have HN := Lib.hid (And.intro (bthen HY.out.2.2.2 hb HY.out.2.2.2.size) (HY.out.2.1.next hb))
        clear hb p0 p1 p2 p3
        rw [hsz] at HN
        have z0 := HN.out.2.at_ 0 _ rfl
        have z1 := HN.out.2.at_ 1 _ rfl
        have z2 := HN.out.2.at_ 2 _ rfl
        have z3 := HN.out.2.at_ 3 _ rfl
        have zf0 := HN.out.2.free 0
        have zf1 := HN.out.2.free 1
        have zf2 := HN.out.2.free 2
        have zf3 := HN.out.2.free 3
        go_wp2_with fail
        refine bodyPost_ret (v := .tuple #[.agg #[.int .i64 0, .string ⟨#[]⟩, .int .i64 0, .slice none 0 0], .bool false]) (by simp [results, Try.results13, go_sem, z0, z1, z2, z3]) rfl (sh_no HR2.out ?_)
        repeat (first | exact HN.out.1 | refine Below.setCell ?_ (by simp; try omega) _)
      · have HG2 := Lib.hid hk2
        have HR2 : Hid (shK id ze nm l to = true) := by unfold Hid shK; rw [HG.out, hk2, inB_mk (inB_yes (good_of_gauge hk2).2.2.1).1 (inB_yes (good_of_gauge hk2).2.2.1).2]; rfl
        clear hk2
        have p0 := HY.out.1.at_ 0 _ rfl
        have p1 := HY.out.1.at_ 1 _ rfl
        have p2 := HY.out.1.at_ 2 _ rfl
        have p3 := HY.out.1.at_ 3 _ rfl
        go_wp2_with fail
        refine (isGauge_v _ _ _ _ _ _ (shL l ze to) _ HG2.out _ HSY.out hm hn).mono ?_
        rintro e w6 ⟨rfl, hb⟩
        have HN := Lib.hid (And.intro (bthen HY.out.2.2.2 hb HY.out.2.2.2.size) (And.intro (HY.out.2.1.next hb) (And.intro (HY.out.1.next hb) (And.intro (HY.out.2.2.1.on hb (Nat.le_refl _)) hb.size))))
        clear hb p0 p1 p2 p3
        rw [hsz] at HN
        have z0 := HN.out.2.1.at_ 0 _ rfl
        have z1 := HN.out.2.1.at_ 1 _ rfl
        have z2 := HN.out.2.1.at_ 2 _ rfl
        have z3 := HN.out.2.1.at_ 3 _ rfl
        have zf0 := HN.out.2.1.free 0
        have zf1 := HN.out.2.1.free 1
        have zf2 := HN.out.2.1.free 2
        have zf3 := HN.out.2.1.free 3
        have p0 := HN.out.2.2.1.at_ 0 _ rfl
        have p1 := HN.out.2.2.1.at_ 1 _ rfl
        have p2 := HN.out.2.2.1.at_ 2 _ rfl
        have p3 := HN.out.2.2.1.at_ 3 _ rfl
        go_wp2_with fail
        refine bodyPost_ret (v := .tuple #[.agg #[.int .i64 id, .string nm, .int .i64 to, .slice A2 l.length c2], .bool true]) (by simp [results, Try.results13, go_sem, z0, z1, z2, z3]) rfl (sh_yes HR2.out ?_ HC.out ?_)
        · refine ((((HN.out.2.2.2.1.put _ _ ?_).put _ _ ?_).put _ _ ?_).put _ _ ?_).wide ?_ ?_
          all_goals (try simp [World.setCell])
          all_goals (have := HN.out.2.2.2.2; try omega)
        · repeat (first | exact HN.out.1 | refine Below.setCell ?_ (by simp; try omega) _)
set_option maxRecDepth 20000 in
set_option maxHeartbeats 3200000 in
theorem shift_spec (id ze : Int) (nm : ByteArray) (A : Option Addr) (n c : Nat) (l : List (Int × Int)) (to : Int) (w : World) (hs : Spots w w.heap.size A n l) (hm : n ≤ maxLen) (hn : nm.size ≤ maxLen) :
    Calls Try.prog 14 #[.agg #[.int .i64 id, .string nm, .int .i64 ze, .slice A n c], .int .i64 to] w (ShPost id ze nm l to w) := by
  obtain rfl := hs.1
  obtain ⟨i0, hi, hz0, hz1, hz2⟩ := info_parts infoReading2
  have HI := Lib.hid (And.intro hi (And.intro hz0 (And.intro hz1 hz2)))
  clear hi hz0 hz1 hz2
  obtain ⟨U, hU⟩ : ∃ U, U = w.alloc (.cells #[.int .i64 id, .string nm, .int .i64 ze, .slice A l.length c] 26) := ⟨_, rfl⟩
  obtain ⟨V, hV⟩ : ∃ V, V = U.alloc (.cells #[.int .i64 0, .string ⟨#[]⟩, .int .i64 0, .slice none 0 0] 26) := ⟨_, rfl⟩
  have HU : Hid (Below w.heap.size w U ∧ Has U w.heap.size [.int .i64 id, .string nm, .int .i64 ze, .slice A l.length c] ∧ U.heap.size = w.heap.size + 1) := by rw [hU]; exact ⟨(zeroCells _ _).1, (zeroCells _ _).2, World.size_alloc _ _⟩
  have HV : Hid (Below U.heap.size U V ∧ Has V U.heap.size [.int .i64 0, .string ⟨#[]⟩, .int .i64 0, .slice none 0 0]) := by rw [hV]; exact zeroCells _ _
  have HVU : Hid (V = (w.alloc (.cells #[.int .i64 id, .string nm, .int .i64 ze, .slice A l.length c] 26)).alloc (.cells #[.int .i64 0, .string ⟨#[]⟩, .int .i64 0, .slice none 0 0] 26)) := by rw [hV, hU]; rfl
  have HS := Lib.hid hs
  have HSV := Lib.hid (spots_more (spots_more hs HU.out.1) HV.out.1)
  have HXV := Lib.hid (HU.out.2.1.next HV.out.1)
  have HBV := Lib.hid (bthen HU.out.1 HV.out.1 HU.out.1.size)
  have hsz : U.heap.size = w.heap.size + 1 := HU.out.2.2
  clear hs hV
  rcases hg : gaugeB id nm ze l with _ | _
  · have HG := Lib.hid hg
    have HR : Hid (shK id ze nm l to = false) := by unfold Hid shK; rw [hg]; rfl
    clear hg hU
    go_enter Try.func14, Try.ntmps14
    go_wp2_with fail
    rw [← HVU.out]
    refine (one_v _ _ _ _ _ _ l _ HG.out _ HSV.out hm hn).mono ?_
    rintro e w1 ⟨rfl, hb⟩
    have HN := Lib.hid (And.intro (bthen HBV.out hb HBV.out.size) (HV.out.2.next hb))
    clear hb
    rw [hsz] at HN
    have z0 := HN.out.2.at_ 0 _ rfl
    have z1 := HN.out.2.at_ 1 _ rfl
    have z2 := HN.out.2.at_ 2 _ rfl
    have z3 := HN.out.2.at_ 3 _ rfl
    have zf0 := HN.out.2.free 0
    have zf1 := HN.out.2.free 1
    have zf2 := HN.out.2.free 2
    have zf3 := HN.out.2.free 3
    go_wp2_with fail
    refine bodyPost_ret (v := .tuple #[.agg #[.int .i64 0, .string ⟨#[]⟩, .int .i64 0, .slice none 0 0], .bool false]) (by simp [results, Try.results14, go_sem, z0, z1, z2, z3]) rfl (sh_no HR.out ?_)
    repeat (first | exact HN.out.1 | refine Below.setCell ?_ (by simp; try omega) _)
  rcases ht : inB to (-1000) 1000 with _ | _
  · have HG := Lib.hid hg
    have HT := Lib.hid ht
    have HR : Hid (shK id ze nm l to = false) := by unfold Hid shK; rw [hg, ht]; rfl
    clear hg ht hU
    go_enter Try.func14, Try.ntmps14
    go_wp2_with fail
    rw [← HVU.out]
    refine (one_v _ _ _ _ _ _ l _ HG.out _ HSV.out hm hn).mono ?_
    rintro e w1 ⟨rfl, hb⟩
    have HN := Lib.hid (And.intro (bthen HBV.out hb HBV.out.size) (HV.out.2.next hb))
    clear hb
    rw [hsz] at HN
    go_wp2_with fail
    refine (l1In_v _ _ _ _ HT.out _).mono ?_
    rintro e w' ⟨rfl, rfl⟩
    have z0 := HN.out.2.at_ 0 _ rfl
    have z1 := HN.out.2.at_ 1 _ rfl
    have z2 := HN.out.2.at_ 2 _ rfl
    have z3 := HN.out.2.at_ 3 _ rfl
    have zf0 := HN.out.2.free 0
    have zf1 := HN.out.2.free 1
    have zf2 := HN.out.2.free 2
    have zf3 := HN.out.2.free 3
    go_wp2_with fail
    refine bodyPost_ret (v := .tuple #[.agg #[.int .i64 0, .string ⟨#[]⟩, .int .i64 0, .slice none 0 0], .bool false]) (by simp [results, Try.results14, go_sem, z0, z1, z2, z3]) rfl (sh_no HR.out ?_)
    repeat (first | exact HN.out.1 | refine Below.setCell ?_ (by simp; try omega) _)
  have HG := Lib.hid hg
  have HT := Lib.hid ht
  have HGG := Lib.hid (good_of_gauge hg)
  have h15 := (good_of_gauge hg).2.2.2.1
  obtain ⟨hzb1, hzb2⟩ := inB_yes (good_of_gauge hg).2.2.1
  obtain ⟨ht1, ht2⟩ := inB_yes ht
  clear hg ht hU
  go_enter Try.func14, Try.ntmps14
  go_wp2_with fail
  rw [← HVU.out]
  refine (one_v _ _ _ _ _ _ l _ HG.out _ HSV.out hm hn).mono ?_
  rintro e w1 ⟨rfl, hb⟩
  have HG1 := Lib.hid (HXV.out.next hb)
  have HZ1 := Lib.hid (HV.out.2.next hb)
  have HB1 := Lib.hid (bthen HBV.out hb HBV.out.size)
  have HS1 := Lib.hid (spots_more HSV.out hb)
  have hlt1 : w.heap.size + 1 < w1.heap.size := by have := HV.out.2.1; have := hb.size; omega
  clear hb
  go_wp2_with fail
  refine (l1In_v _ _ _ _ HT.out _).mono ?_
  rintro e w' ⟨rfl, rfl⟩
  have g0 := HG1.out.at_ 0 _ rfl
  have g1 := HG1.out.at_ 1 _ rfl
  have g2 := HG1.out.at_ 2 _ rfl
  have g3 := HG1.out.at_ 3 _ rfl
  have HA1 := Lib.hid (acc_nil (w := w1) 28 2 (zeroCells w1 #[.int .i64 id, .string nm, .int .i64 to, .slice none 0 0]).1 (zeroCells w1 #[.int .i64 id, .string nm, .int .i64 to, .slice none 0 0]).2)
  go_wp2_with fail
  clear g0 g1 g2 g3
  go_loopw [7] (fun i wr => ∃ (k : Nat) (v : Value), k ≤ l.length ∧ i = .int .i64 k ∧ Hid (Acc w1 28 2 [.int .i64 id, .string nm, .int .i64 to, v] v k (cells2 (shL (l.take k) ze to)) wr)) (fun i _ => l.length - (intOf i).toNat)
  case atStart => exact ⟨0, _, Nat.zero_le _, rfl, HA1⟩
  case round =>
    obtain ⟨k, v, hk, rfl, hR⟩ := hrel
    have HGr := Lib.hid (HG1.out.next hR.out.2.1)
    have g2 := HGr.out.at_ 2 _ rfl
    have g3 := HGr.out.at_ 3 _ rfl
    by_cases hlt : k < l.length
    · obtain ⟨b0, o0, x, y, rfl, hb0, hl0, c0, c1⟩ := (spots_more HS1.out hR.out.2.1).2 k hlt
      have HK := Lib.hid hl0
      have hbd := (read_at HGG.out.2.2.2.2 hlt).2
      rw [lv_of hl0] at hbd
      obtain ⟨hbd1, hbd2⟩ := hbd
      have HWR : Hid (y + ze - to = wrap64 (y + ze - to)) := by unfold Hid wrap64; omega
      clear hl0
      have o3 := hR.out.2.2.at_ 3 _ rfl
      obtain ⟨A2, c2, rfl⟩ := own_slice hR.out.1
      go_wp2_with fail
      have lc0 := lcell (c0)
      have lc1 := lcell (c1)
      have lc2 := lcell (g2)
      have lc3 := lcell (g3)
      have lc4 := lcell (o3)
      refine region_mid (W := wr) 20 (by kernel_rfl) (by kernel_rfl) (Below.refl _ _) (fun d _ _ _ _ h => by cases d <;> exact h) ?_
      simp only [List.take_succ_cons, List.take_zero, List.drop_succ_cons, List.drop_zero]
      repeat (go_big_quiet_step (fail))
      refine wpQuiet_nil ?_
      intro W3 hW1
      have HL : Hid (Below wr.heap.size wr W3) := by obtain ⟨x, rfl⟩ := hW1; exact Lib.hid x.below
      clear hW1 lc0 lc1 lc2 lc3 lc4
      refine wpOp_step rfl (fun K hK => ?_)
      rw [if_pos (by rfl)]
      go_simp
      refine hK _ _ ⟨⟨⟨_, HL.out.alloc HL.out.size _⟩, rfl⟩, ?_⟩
      clear hK K
      have HR3 := Lib.hid (hR.out.next HL.out)
      clear c0 c1 g2 g3 o3
      refine wpList_append_own _ rfl _ _ 24 rfl (w1.heap.size + 1) 28 i0 (.agg #[.int .i64 0, .int .i64 0]) 2 16 Try.underlying24 HI.out.1 HI.out.2.1 HI.out.2.2.1 HI.out.2.2.2 rfl (by decide) _ _ _ rfl (HR3.out.1.alloc _) ⟨W3.heap.size, 0, none⟩ 1 1 [.int .i64 x, .int .i64 (y + ze - to)] rfl rfl (two_new _ _ _ _) (by simp [Value.oneCell']) (by unfold maxLen; omega) (by omega) (by have := HR3.out.2.1.size; have := HR3.out.2.2.1; simp; omega) ?_
      intro v' w5 hown' hgrow _
      obtain ⟨R', cap', rfl⟩ := own_slice hown'
      have HN := Lib.hid ((HR3.out.step hown' hgrow).put 3 (.slice R' (k + 1) cap'))
      have o3' := (HR3.out.step hown' hgrow).2.2.at_ 3 _ rfl
      have of3 := (HR3.out.step hown' hgrow).2.2.free 3
      clear hown' hgrow
      go_wp2_with fail
      have hn3 := HN.out
      rw [HWR.out, ← cells2_snoc, ← shL_take ze to HK.out] at hn3
      have HN3 := Lib.hid hn3
      clear hn3 o3' of3
      go_roundw
      case rel => exact ⟨k + 1, _, by omega, by go_num, HN3⟩
      case measure => simp [intOf]; omega
    · obtain rfl : k = l.length := by omega
      obtain ⟨A2, c2, rfl⟩ := own_slice hR.out.1
      have hR' := hR.out
      rw [shL_full l ze to (Nat.le_refl _)] at hR'
      have HR1 := Lib.hid hR'
      clear hR'
      have HO := Lib.hid ((own2_of_row HR1.out.1 (shL_len l ze to)))
      have HC := Lib.hid (own_cap HR1.out.1)
      have HSY := Lib.hid (HO.out.spots (Nat.le_refl _))
      have HZr := Lib.hid (HZ1.out.next HR1.out.2.1)
      have HBr := Lib.hid (bthen HB1.out HR1.out.2.1 HB1.out.size)
      have hsr : w1.heap.size ≤ wr.heap.size := HR1.out.2.1.size
      clear g2
      rcases hk2 : gaugeB id nm to (shL l ze to) with _ | _
      · have HG2 := Lib.hid hk2
        have HR2 : Hid (shK id ze nm l to = false) := by unfold Hid shK; rw [hk2, Bool.and_false]
        clear hk2
        have p0 := HR1.out.2.2.at_ 0 _ rfl
        have p1 := HR1.out.2.2.at_ 1 _ rfl
        have p2 := HR1.out.2.2.at_ 2 _ rfl
        have p3 := HR1.out.2.2.at_ 3 _ rfl
        go_wp2_with fail
        refine (one_v _ _ _ _ _ _ (shL l ze to) _ HG2.out _ HSY.out hm hn).mono ?_
        rintro e w6 ⟨rfl, hb⟩
        have HN := Lib.hid (And.intro (bthen HBr.out hb HBr.out.size) (HZr.out.next hb))
        clear hb p0 p1 p2 p3 g3
        rw [hsz] at HN
        have z0 := HN.out.2.at_ 0 _ rfl
        have z1 := HN.out.2.at_ 1 _ rfl
        have z2 := HN.out.2.at_ 2 _ rfl
        have z3 := HN.out.2.at_ 3 _ rfl
        have zf0 := HN.out.2.free 0
        have zf1 := HN.out.2.free 1
        have zf2 := HN.out.2.free 2
        have zf3 := HN.out.2.free 3
        go_wp2_with fail
        refine bodyPost_ret (v := .tuple #[.agg #[.int .i64 0, .string ⟨#[]⟩, .int .i64 0, .slice none 0 0], .bool false]) (by simp [results, Try.results14, go_sem, z0, z1, z2, z3]) rfl (sh_no HR2.out ?_)
        repeat (first | exact HN.out.1 | refine Below.setCell ?_ (by simp; try omega) _)
      · have HG2 := Lib.hid hk2
        have HR2 : Hid (shK id ze nm l to = true) := by unfold Hid shK; rw [HG.out, hk2, HT.out]; rfl
        clear hk2
        have p0 := HR1.out.2.2.at_ 0 _ rfl
        have p1 := HR1.out.2.2.at_ 1 _ rfl
        have p2 := HR1.out.2.2.at_ 2 _ rfl
        have p3 := HR1.out.2.2.at_ 3 _ rfl
        go_wp2_with fail
        refine (one_v _ _ _ _ _ _ (shL l ze to) _ HG2.out _ HSY.out hm hn).mono ?_
        rintro e w6 ⟨rfl, hb⟩
        have HN := Lib.hid (And.intro (bthen HBr.out hb HBr.out.size) (And.intro (HZr.out.next hb) (And.intro (HR1.out.2.2.next hb) (And.intro (HO.out.on hb (Nat.le_refl _)) hb.size))))
        clear hb p0 p1 p2 p3 g3
        rw [hsz] at HN
        have z0 := HN.out.2.1.at_ 0 _ rfl
        have z1 := HN.out.2.1.at_ 1 _ rfl
        have z2 := HN.out.2.1.at_ 2 _ rfl
        have z3 := HN.out.2.1.at_ 3 _ rfl
        have zf0 := HN.out.2.1.free 0
        have zf1 := HN.out.2.1.free 1
        have zf2 := HN.out.2.1.free 2
        have zf3 := HN.out.2.1.free 3
        have p0 := HN.out.2.2.1.at_ 0 _ rfl
        have p1 := HN.out.2.2.1.at_ 1 _ rfl
        have p2 := HN.out.2.2.1.at_ 2 _ rfl
        have p3 := HN.out.2.2.1.at_ 3 _ rfl
        go_wp2_with fail
        refine bodyPost_ret (v := .tuple #[.agg #[.int .i64 id, .string nm, .int .i64 to, .slice A2 l.length c2], .bool true]) (by simp [results, Try.results14, go_sem, z0, z1, z2, z3]) rfl (sh_yes HR2.out ?_ HC.out ?_)
        · refine ((((HN.out.2.2.2.1.put _ _ ?_).put _ _ ?_).put _ _ ?_).put _ _ ?_).wide ?_ ?_
          all_goals (try simp [World.setCell])
          all_goals (have := HN.out.2.2.2.2; try omega)
        · repeat (first | exact HN.out.1 | refine Below.setCell ?_ (by simp; try omega) _)
end Go.Proofs.Ytlggcfeclbcfaaa
