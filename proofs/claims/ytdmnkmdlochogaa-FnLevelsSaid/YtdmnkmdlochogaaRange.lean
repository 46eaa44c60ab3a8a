/-
  Contracts of spec.l1Least, spec.l1Most, impl.RangeOf, spec.RangeOf over this translation. Conditions: stated at each theorem.
-/
import Derived.Test.YtdmnkmdlochogaaPlace
import Derived.Test.YtdmnkmdlochogaaRed
namespace Go.Proofs.Ytdmnkmdlochogaa
open Go.RowKit

def ext (f : Int → Int → Int) (g : Int × Int → Int) (l : List (Int × Int)) (k : Nat) : Int := ((l.take k).map g).foldl f (g (l.getD 0 (0, 0)))
theorem ext_step (f : Int → Int → Int) (g : Int × Int → Int) {l : List (Int × Int)} {k : Nat} {p : Int × Int} (h : l[k]? = some p) : ext f g l (k + 1) = f (ext f g l k) (g p) := by
  obtain ⟨hk, rfl⟩ := List.getElem?_eq_some_iff.1 h
  unfold ext
  rw [List.take_succ_eq_append_getElem hk, List.map_append, List.foldl_append]
  rfl
theorem ext_one (f : Int → Int → Int) (hf : ∀ x, f x x = x) (g : Int × Int → Int) {l : List (Int × Int)} {p : Int × Int} (h : l[0]? = some p) : ext f g l 1 = g p := by
  rw [ext_step f g h]
  have e : ext f g l 0 = g p := by
    unfold ext
    rw [List.getD_eq_getElem?_getD, h]; rfl
  rw [e, hf]
theorem ext_zero (f : Int → Int → Int) (g : Int × Int → Int) {l : List (Int × Int)} {p : Int × Int} (h : l[0]? = some p) : ext f g l 0 = g p := by
  unfold ext
  rw [List.getD_eq_getElem?_getD, h]; rfl
theorem ext_bd (f : Int → Int → Int) (hf : ∀ x y, f x y = x ∨ f x y = y) {l : List (Int × Int)} {n : Nat} (hg : goodK l n = true) (hn : n ≤ l.length) (h0 : 0 < n) : ∀ k, k ≤ n → -500 ≤ ext f (·.2) l k ∧ ext f (·.2) l k ≤ 2000 := by
  intro k
  induction k with
  | zero =>
    intro _
    have hl : l[0]? = some (l[0]'(by omega)) := List.getElem?_eq_getElem (by omega)
    rw [ext_zero f (·.2) hl]
    have := (read_at hg h0).2
    rw [lv_of (x := (l[0]'(by omega)).1) (y := (l[0]'(by omega)).2) hl] at this
    exact this
  | succ k ih =>
    intro hk
    have hl : l[k]? = some (l[k]'(by omega)) := List.getElem?_eq_getElem (by omega)
    rw [ext_step f (·.2) hl]
    have h1 := ih (by omega)
    have h2 := (read_at hg (show k < n by omega)).2
    rw [lv_of (x := (l[k]'(by omega)).1) (y := (l[k]'(by omega)).2) hl] at h2
    rcases hf (ext f (·.2) l k) (l[k]'(by omega)).2 with h | h
    · rw [h]; exact h1
    · rw [h]; exact h2
def rgK (id ze : Int) (nm : ByteArray) (l : List (Int × Int)) : Bool := gaugeB id nm ze l && decide (0 < l.length)
def rgV (f : Int → Int → Int) (id ze : Int) (nm : ByteArray) (l : List (Int × Int)) : Int := if rgK id ze nm l then ext f (·.2) l l.length + ze else 0
def RgPost (id ze : Int) (nm : ByteArray) (l : List (Int × Int)) (w : World) (e : Ending) (w' : World) : Prop :=
  e = .returned (.tuple #[.int .i64 (rgV min id ze nm l), .int .i64 (rgV max id ze nm l), .bool (rgK id ze nm l)]) ∧ Below w.heap.size w w'
theorem rg_no {id ze : Int} {nm : ByteArray} {l : List (Int × Int)} {w w' : World} (h : rgK id ze nm l = false) (hb : Below w.heap.size w w') : RgPost id ze nm l w (.returned (.tuple #[.int .i64 0, .int .i64 0, .bool false])) w' :=
  ⟨by unfold rgV; rw [h]; rfl, hb⟩
theorem rg_yes {id ze : Int} {nm : ByteArray} {l : List (Int × Int)} {w w' : World} (h : rgK id ze nm l = true) (hb : Below w.heap.size w w') : RgPost id ze nm l w (.returned (.tuple #[.int .i64 (ext min (·.2) l l.length + ze), .int .i64 (ext max (·.2) l l.length + ze), .bool true])) w' :=
  ⟨by unfold rgV; rw [h, if_pos rfl, if_pos rfl], hb⟩
set_option maxRecDepth 20000 in
set_option maxHeartbeats 1600000 in
theorem range_spec (id ze : Int) (nm : ByteArray) (A : Option Addr) (n c : Nat) (l : List (Int × Int)) (w : World) (hs : Spots w w.heap.size A n l) (hm : n ≤ maxLen) (hn : nm.size ≤ maxLen) :
    Calls Try.prog 21 #[.agg #[.int .i64 id, .string nm, .int .i64 ze, .slice A n c]] w (RgPost id ze nm l w) := by
  obtain rfl := hs.1
  have HX := Lib.hid (box1 (cs := #[.int .i64 id, .string nm, .int .i64 ze, .slice A l.length c]) (T := 26) (Below.refl _ _) (w := w))
  have HS := Lib.hid (spots_alloc hs (.cells #[.int .i64 id, .string nm, .int .i64 ze, .slice A l.length c] 26))
  clear hs
  rcases hg : gaugeB id nm ze l with _ | _
  · have HG := Lib.hid hg
    have HR : Hid (rgK id ze nm l = false) := by unfold Hid rgK; rw [hg]; rfl
    clear hg
    go_enter Try.func21, Try.ntmps21
    go_wp2_with fail
    refine (one_v _ _ _ _ _ _ l _ HG.out _ HS.out hm hn).mono ?_
    rintro e w1 ⟨rfl, hb⟩
    have HB1 := Lib.hid (bthen HX.out.1 hb HX.out.1.size)
    clear hb
    go_wp2_with fail
    go_ret3
    exact rg_no HR.out HB1.out
  by_cases h0 : 0 < l.length
  · have HG := Lib.hid hg
    have HK : Hid (rgK id ze nm l = true) := by unfold Hid rgK; rw [hg, decide_eq_true h0]; rfl
    have HGG := Lib.hid (good_of_gauge hg)
    have hzb := inB_yes (good_of_gauge hg).2.2.1
    have h15 := (good_of_gauge hg).2.2.2.1
    have hne : ((l.length : Int) == 0) = false := beq_eq_false_iff_ne.2 (by omega)
    clear hg
    go_enter Try.func21, Try.ntmps21
    go_wp2_with fail
    refine (one_v _ _ _ _ _ _ l _ HG.out _ HS.out hm hn).mono ?_
    rintro e w1 ⟨rfl, hb⟩
    have HB1 := Lib.hid (And.intro (bthen HX.out.1 hb HX.out.1.size) (HX.out.2.next hb))
    have HS1 := Lib.hid (spots_more HS.out hb)
    clear hb
    have a0 := HB1.out.2.at_ 0 _ rfl
    have a1 := HB1.out.2.at_ 1 _ rfl
    have a2 := HB1.out.2.at_ 2 _ rfl
    have a3 := HB1.out.2.at_ 3 _ rfl
    obtain ⟨b0, o0, x0, y0, rfl, hb0, hl0, c0, c1⟩ := HS1.out.2 0 h0
    rw [Nat.zero_mul, Nat.add_zero] at c0 c1
    have HL0 := Lib.hid hl0
    clear hl0
    go_wp2_with fail
    have lc0 := lcell (a2)
    have lc1 := lcell (a3)
    have lc2 := lcell (c0)
    have lc3 := lcell (c1)
    refine region_later (W := w1) (by kernel_rfl) (by kernel_rfl) (Below.refl _ _) ?_
    repeat (go_big_quiet_step (fail))
    refine wpQuiet_nil ?_
    intro W2 hW1
    have HL : Hid (Below w1.heap.size w1 W2) := by obtain ⟨x, rfl⟩ := hW1; exact Lib.hid x.below
    clear hW1 lc0 lc1 lc2 lc3
    have HBx := Lib.hid (And.intro (bthen HB1.out.1 HL.out HB1.out.1.size) (HB1.out.2.next HL.out))
    have HS2 := Lib.hid (spots_more HS1.out HL.out)
    clear a0 a1 a2 a3 c0 c1 HB1 HS1 HL
    have a2 := HBx.out.2.at_ 2 _ rfl
    have a3 := HBx.out.2.at_ 3 _ rfl
    have HS3 : Hid (ext min (·.2) l 1 = y0 ∧ ext max (·.2) l 1 = y0) := Lib.hid ⟨ext_one min (by omega) (·.2) HL0.out, ext_one max (by omega) (·.2) HL0.out⟩
    go_wp2_with fail
    go_loop [5, 6, 7] (fun u v i => ∃ k : Nat, 1 ≤ k ∧ k ≤ l.length ∧ i = .int .i64 k ∧ u = .int .i64 (ext min (·.2) l k) ∧ v = .int .i64 (ext max (·.2) l k)) (fun _ _ i => l.length - (intOf i).toNat)
    case atStart => exact ⟨1, Nat.le_refl _, h0, rfl, by rw [HS3.out.1], by rw [HS3.out.2]⟩
    case round =>
      obtain ⟨k, hk1, hk, rfl, rfl, rfl⟩ := hrel
      by_cases hlt : k < l.length
      · obtain ⟨b, o, x, y, hA, hb, hl, c0, c1⟩ := HS2.out.2 k hlt
        obtain ⟨rfl, rfl⟩ : b0 = b ∧ o0 = o := by injection hA with h; injection h with h h'; exact ⟨h, h'⟩
        have HN : Hid (ext min (·.2) l (k + 1) = min (ext min (·.2) l k) y ∧ ext max (·.2) l (k + 1) = max (ext max (·.2) l k) y) := Lib.hid ⟨ext_step min (·.2) hl, ext_step max (·.2) hl⟩
        clear hl hA
        go_wp2_with fail
        refine (least_any _ _ _).mono ?_
        rintro e w' ⟨rfl, rfl⟩
        go_wp2_with fail
        refine (most_any _ _ _).mono ?_
        rintro e w' ⟨rfl, rfl⟩
        go_wp2_with fail
        go_round
        case rel => exact ⟨k + 1, by omega, by omega, by go_num, by rw [HN.out.1], by rw [HN.out.2]⟩
        case measure => simp [intOf]; omega
      · obtain rfl : k = l.length := by omega
        have hbd1 := ext_bd min (by omega) HGG.out.2.2.2.2 (Nat.le_refl _) h0 l.length (Nat.le_refl _)
        have hbd2 := ext_bd max (by omega) HGG.out.2.2.2.2 (Nat.le_refl _) h0 l.length (Nat.le_refl _)
        obtain ⟨E, hE⟩ : ∃ E, E = ext min (·.2) l l.length := ⟨_, rfl⟩
        obtain ⟨D, hD⟩ : ∃ D, D = ext max (·.2) l l.length := ⟨_, rfl⟩
        have HY := Lib.hid (rg_yes (w := w) HK.out (HBx.out.1))
        rw [← hE, ← hD] at HY
        rw [← hE, ← hD]
        rw [← hE] at hbd1
        rw [← hD] at hbd2
        clear hE hD
        obtain ⟨hb1, hb2⟩ := hbd1
        obtain ⟨hb3, hb4⟩ := hbd2
        obtain ⟨hz1, hz2⟩ := hzb
        go_wp2_with fail
        have lc0 := lcell (a2)
        refine region_later (W := W2) (by kernel_rfl) (by kernel_rfl) (Below.refl _ _) ?_
        repeat (go_big_quiet_step (fail))
        refine wpQuiet_nil ?_
        intro W1 hW1
        have HL : Hid (Below W2.heap.size W2 W1) := by obtain ⟨x, rfl⟩ := hW1; exact Lib.hid x.below
        clear hW1 lc0
        have HT := Lib.hid (bthen HBx.out.1 HL.out HBx.out.1.size)
        go_wp2_with fail
        go_ret3
        exact ⟨HY.out.1, HT.out⟩
  · have HG := Lib.hid hg
    have HR : Hid (rgK id ze nm l = false) := by unfold Hid rgK; rw [decide_eq_false h0, Bool.and_false]
    have hz : l.length ≤ 0 := by omega
    have h0 : ((l.length : Int) == 0) = true := by simpa using hz
    clear hg hz
    go_enter Try.func21, Try.ntmps21
    go_wp2_with fail
    refine (one_v _ _ _ _ _ _ l _ HG.out _ HS.out hm hn).mono ?_
    rintro e w1 ⟨rfl, hb⟩
    have HB1 := Lib.hid (And.intro (bthen HX.out.1 hb HX.out.1.size) (HX.out.2.next hb))
    clear hb
    have a3 := HB1.out.2.at_ 3 _ rfl
    go_wp2_with fail
    go_ret3
    exact rg_no HR.out HB1.out.1
set_option maxRecDepth 20000 in
set_option maxHeartbeats 1600000 in
theorem range_impl (id ze : Int) (nm : ByteArray) (A : Option Addr) (n c : Nat) (l : List (Int × Int)) (w : World) (hs : Spots w w.heap.size A n l) (hm : n ≤ maxLen) (hn : nm.size ≤ maxLen) (hcap : n ≤ c) :
    Calls Try.prog 20 #[.agg #[.int .i64 id, .string nm, .int .i64 ze, .slice A n c]] w (RgPost id ze nm l w) := by
  obtain rfl := hs.1
  have HX := Lib.hid (box1 (cs := #[.int .i64 id, .string nm, .int .i64 ze, .slice A l.length c]) (T := 26) (Below.refl _ _) (w := w))
  have HS := Lib.hid (spots_alloc hs (.cells #[.int .i64 id, .string nm, .int .i64 ze, .slice A l.length c] 26))
  clear hs
  rcases hg : gaugeB id nm ze l with _ | _
  · have HG := Lib.hid hg
    have HR : Hid (rgK id ze nm l = false) := by unfold Hid rgK; rw [hg]; rfl
    clear hg
    go_enter Try.func20, Try.ntmps20
    go_wp2_with fail
    refine (isGauge_v _ _ _ _ _ _ l _ HG.out _ HS.out hm hn).mono ?_
    rintro e w1 ⟨rfl, hb⟩
    have HB1 := Lib.hid (bthen HX.out.1 hb HX.out.1.size)
    clear hb
    go_wp2_with fail
    go_ret3
    exact rg_no HR.out HB1.out
  by_cases h0 : 0 < l.length
  · have HG := Lib.hid hg
    have HK : Hid (rgK id ze nm l = true) := by unfold Hid rgK; rw [hg, decide_eq_true h0]; rfl
    have HGG := Lib.hid (good_of_gauge hg)
    have hzb := inB_yes (good_of_gauge hg).2.2.1
    have h15 := (good_of_gauge hg).2.2.2.1
    have hne : ((l.length : Int) == 0) = false := beq_eq_false_iff_ne.2 (by omega)
    clear hg
    go_enter Try.func20, Try.ntmps20
    go_wp2_with fail
    refine (isGauge_v _ _ _ _ _ _ l _ HG.out _ HS.out hm hn).mono ?_
    rintro e w1 ⟨rfl, hb⟩
    have HB1 := Lib.hid (And.intro (bthen HX.out.1 hb HX.out.1.size) (HX.out.2.next hb))
    have HS1 := Lib.hid (spots_more HS.out hb)
    clear hb
    have a0 := HB1.out.2.at_ 0 _ rfl
    have a1 := HB1.out.2.at_ 1 _ rfl
    have a2 := HB1.out.2.at_ 2 _ rfl
    have a3 := HB1.out.2.at_ 3 _ rfl
    obtain ⟨b0, o0, x0, y0, rfl, hb0, hl0, c0, c1⟩ := HS1.out.2 0 h0
    rw [Nat.zero_mul, Nat.add_zero] at c0 c1
    have HL0 := Lib.hid hl0
    clear hl0
    go_wp2_with fail
    have lc0 := lcell (a2)
    have lc1 := lcell (a3)
    have lc2 := lcell (c0)
    have lc3 := lcell (c1)
    refine region_later (W := w1) (by kernel_rfl) (by kernel_rfl) (Below.refl _ _) ?_
    repeat (go_big_quiet_step (fail))
    refine wpQuiet_nil ?_
    intro W2 hW1
    have HL : Hid (Below w1.heap.size w1 W2) := by obtain ⟨x, rfl⟩ := hW1; exact Lib.hid x.below
    clear hW1 lc0 lc1 lc2 lc3
    have HBx := Lib.hid (And.intro (bthen HB1.out.1 HL.out HB1.out.1.size) (HB1.out.2.next HL.out))
    have HS2 := Lib.hid (spots_more HS1.out HL.out)
    clear a0 a1 a2 a3 c0 c1 HB1 HS1 HL
    have a2 := HBx.out.2.at_ 2 _ rfl
    have a3 := HBx.out.2.at_ 3 _ rfl
    have HS3 : Hid (ext min (·.2) l 1 = y0 ∧ ext max (·.2) l 1 = y0) := Lib.hid ⟨ext_one min (by omega) (·.2) HL0.out, ext_one max (by omega) (·.2) HL0.out⟩
    by_cases hc1 : c = 1
    · have hc2 : 1 = c := hc1.symm
      have hl1 : l.length ≤ 1 := by omega
      have HS4 : Hid (ext min (·.2) l (l.length - 1 + 1) = y0 ∧ ext max (·.2) l (l.length - 1 + 1) = y0) := by
        have : l.length - 1 + 1 = 1 := by omega
        rw [this]; exact HS3
      clear hc1
      subst hc2
      go_wp2_with fail
      go_loopw [5, 6, 32] (fun u v i wr => ∃ k : Nat, k ≤ l.length - 1 ∧ i = .int .i64 k ∧ u = .int .i64 (ext min (·.2) l (l.length - 1 + 1)) ∧ v = .int .i64 (ext max (·.2) l (l.length - 1 + 1)) ∧ Hid (Below W2.heap.size W2 wr)) (fun _ _ i _ => l.length - (intOf i).toNat)
      case atStart => exact ⟨0, Nat.zero_le _, rfl, by rw [HS4.out.1], by rw [HS4.out.2], Lib.hid (Below.refl _ _)⟩
      case round =>
        obtain ⟨k, hk, rfl, rfl, rfl, hB⟩ := hrel
        have hlt : ¬ k < l.length - 1 := by omega
        · skip
          have hL1 : l.length - 1 + 1 = l.length := by omega
          rw [hL1]
          have hbd1 := ext_bd min (by omega) HGG.out.2.2.2.2 (Nat.le_refl _) h0 l.length (Nat.le_refl _)
          have hbd2 := ext_bd max (by omega) HGG.out.2.2.2.2 (Nat.le_refl _) h0 l.length (Nat.le_refl _)
          obtain ⟨E, hE⟩ : ∃ E, E = ext min (·.2) l l.length := ⟨_, rfl⟩
          obtain ⟨D, hD⟩ : ∃ D, D = ext max (·.2) l l.length := ⟨_, rfl⟩
          have HY := Lib.hid (rg_yes (w := w) HK.out (HBx.out.1))
          rw [← hE, ← hD] at HY
          rw [← hE, ← hD]
          rw [← hE] at hbd1
          rw [← hD] at hbd2
          clear hE hD hL1
          obtain ⟨hb1, hb2⟩ := hbd1
          obtain ⟨hb3, hb4⟩ := hbd2
          obtain ⟨hz1, hz2⟩ := hzb
          have HBy := Lib.hid (And.intro (bthen HBx.out.1 hB.out HBx.out.1.size) (HBx.out.2.next hB.out))
          have a2' := HBy.out.2.at_ 2 _ rfl
          clear a2 a3
          go_wp2_with fail
          have lc0 := lcell (a2')
          refine region_later (W := wr) (by kernel_rfl) (by kernel_rfl) (Below.refl _ _) ?_
          repeat (go_big_quiet_step (fail))
          refine wpQuiet_nil ?_
          intro W3 hW1
          have HL : Hid (Below wr.heap.size wr W3) := by obtain ⟨x, rfl⟩ := hW1; exact Lib.hid x.below
          clear hW1 lc0
          have HT := Lib.hid (bthen HBy.out.1 HL.out HBy.out.1.size)
          go_wp2_with fail
          go_ret3
          exact ⟨HY.out.1, HT.out⟩
    · have hc2 : ¬ 1 = c := fun h => hc1 h.symm
      go_wp2_with fail
      go_loopw [5, 6, 32] (fun u v i wr => ∃ k : Nat, k ≤ l.length - 1 ∧ i = .int .i64 k ∧ u = .int .i64 (ext min (·.2) l (k + 1)) ∧ v = .int .i64 (ext max (·.2) l (k + 1)) ∧ Hid (Below W2.heap.size W2 wr)) (fun _ _ i _ => l.length - (intOf i).toNat)
      case atStart => exact ⟨0, Nat.zero_le _, rfl, by rw [HS3.out.1], by rw [HS3.out.2], Lib.hid (Below.refl _ _)⟩
      case round =>
        obtain ⟨k, hk, rfl, rfl, rfl, hB⟩ := hrel
        by_cases hlt : k < l.length - 1
        · obtain ⟨b, o, x, y, hA, hb, hl, c0, c1⟩ := (spots_more HS2.out hB.out).2 (k + 1) (by omega)
          obtain ⟨rfl, rfl⟩ : b0 = b ∧ o0 = o := by injection hA with h; injection h with h h'; exact ⟨h, h'⟩
          rw [show o0 + (k + 1) * 2 = o0 + 2 + k * 2 by omega] at c0 c1
          obtain ⟨E, hE⟩ : ∃ E, E = ext min (·.2) l (k + 1) := ⟨_, rfl⟩
          obtain ⟨D, hD⟩ : ∃ D, D = ext max (·.2) l (k + 1) := ⟨_, rfl⟩
          have HN : Hid (ext min (·.2) l (k + 1 + 1) = min E y ∧ ext max (·.2) l (k + 1 + 1) = max D y) := Lib.hid ⟨by rw [hE]; exact ext_step min (·.2) hl, by rw [hD]; exact ext_step max (·.2) hl⟩
          rw [← hE, ← hD]
          clear hl hA hE hD
          have HM0 : Hid ((if y < E then y else E) = min E y) := by unfold Hid; split <;> omega
          have HM1 : Hid ((if D < y then y else D) = max D y) := by unfold Hid; split <;> omega
          go_wp2_with fail
          obtain ⟨W0, hW0⟩ : ∃ W0, W0 = wr.alloc (.cells #[.int .i64 x, .int .i64 y] 34) := ⟨_, rfl⟩
          have HW : Hid (Below wr.heap.size wr W0 ∧ Has W0 wr.heap.size [.int .i64 x, .int .i64 y]) := by rw [hW0]; exact box1 (Below.refl _ _)
          rw [← hW0]
          clear hW0 c0 c1
          have e1 := HW.out.2.at_ 1 _ rfl
          have lc0 := lcell (e1)
          refine region_later (W := W0) (by kernel_rfl) (by kernel_rfl) (Below.refl _ _) ?_
          repeat (go_big_quiet_step (fail))
          refine wpQuiet_nil ?_
          intro W3 hW1
          have HL : Hid (Below W0.heap.size W0 W3) := by obtain ⟨x, rfl⟩ := hW1; exact Lib.hid x.below
          clear hW1 lc0
          have HB := Lib.hid (bthen hB.out (bthen HW.out.1 HL.out HW.out.1.size) hB.out.size)
          clear e1
          rw [HM0.out, HM1.out]
          go_wp2_with fail
          go_roundw
          case rel => exact ⟨k + 1, by omega, by go_num, by rw [HN.out.1], by rw [HN.out.2], HB⟩
          case measure => simp [intOf]; omega
        · obtain rfl : k = l.length - 1 := by omega
          have hL1 : l.length - 1 + 1 = l.length := by omega
          rw [hL1]
          have hbd1 := ext_bd min (by omega) HGG.out.2.2.2.2 (Nat.le_refl _) h0 l.length (Nat.le_refl _)
          have hbd2 := ext_bd max (by omega) HGG.out.2.2.2.2 (Nat.le_refl _) h0 l.length (Nat.le_refl _)
          obtain ⟨E, hE⟩ : ∃ E, E = ext min (·.2) l l.length := ⟨_, rfl⟩
          obtain ⟨D, hD⟩ : ∃ D, D = ext max (·.2) l l.length := ⟨_, rfl⟩
          have HY := Lib.hid (rg_yes (w := w) HK.out (HBx.out.1))
          rw [← hE, ← hD] at HY
          rw [← hE, ← hD]
          rw [← hE] at hbd1
          rw [← hD] at hbd2
          clear hE hD hL1
          obtain ⟨hb1, hb2⟩ := hbd1
          obtain ⟨hb3, hb4⟩ := hbd2
          obtain ⟨hz1, hz2⟩ := hzb
          have HBy := Lib.hid (And.intro (bthen HBx.out.1 hB.out HBx.out.1.size) (HBx.out.2.next hB.out))
          have a2' := HBy.out.2.at_ 2 _ rfl
          clear a2 a3
          go_wp2_with fail
          have lc0 := lcell (a2')
          refine region_later (W := wr) (by kernel_rfl) (by kernel_rfl) (Below.refl _ _) ?_
          repeat (go_big_quiet_step (fail))
          refine wpQuiet_nil ?_
          intro W3 hW1
          have HL : Hid (Below wr.heap.size wr W3) := by obtain ⟨x, rfl⟩ := hW1; exact Lib.hid x.below
          clear hW1 lc0
          have HT := Lib.hid (bthen HBy.out.1 HL.out HBy.out.1.size)
          go_wp2_with fail
          go_ret3
          exact ⟨HY.out.1, HT.out⟩
  · have HG := Lib.hid hg
    have HR : Hid (rgK id ze nm l = false) := by unfold Hid rgK; rw [decide_eq_false h0, Bool.and_false]
    have hz : l.length ≤ 0 := by omega
    have h0 : ((l.length : Int) == 0) = true := by simpa using hz
    clear hg hz
    go_enter Try.func20, Try.ntmps20
    go_wp2_with fail
    refine (isGauge_v _ _ _ _ _ _ l _ HG.out _ HS.out hm hn).mono ?_
    rintro e w1 ⟨rfl, hb⟩
    have HB1 := Lib.hid (And.intro (bthen HX.out.1 hb HX.out.1.size) (HX.out.2.next hb))
    clear hb
    have a3 := HB1.out.2.at_ 3 _ rfl
    go_wp2_with fail
    go_ret3
    exact rg_no HR.out HB1.out.1
end Go.Proofs.Ytdmnkmdlochogaa
