/-
  Contracts of impl.GapsOf, spec.GapsOf over this translation. Conditions: stated at each theorem.
-/
import Derived.Test.YtlggcfeclbcfaaaPlace
import Derived.Test.YtlggcfeclbcfaaaSs
import Derived.Test.YtlggcfeclbcfaaaMid
namespace Go.Proofs.Ytlggcfeclbcfaaa
open Go.RowKit

theorem infoInts : (Try.prog.info? 44).map (fun i => (i.zero, i.size, i.bytes)) = some (some (.slice none 0 0), 1, 24) := by kernel_rfl
def gpB (l : List (Int × Int)) (m : Int) (i : Nat) : Bool := decide (1 ≤ i ∧ m < tmAt l i - tmAt l (i - 1))
def gpL (l : List (Int × Int)) (m : Int) (k : Nat) : List (Int × Int) := ((List.range k).filter (gpB l m)).map fun i => (tmAt l (i - 1), tmAt l i)
theorem gpL_succ (l : List (Int × Int)) (m : Int) (k : Nat) : gpL l m (k + 1) = gpL l m k ++ (if gpB l m k then [(tmAt l (k - 1), tmAt l k)] else []) := by
  unfold gpL
  rw [List.range_succ, List.filter_append, List.map_append]
  congr 1
  by_cases h : gpB l m k
  · simp [h]
  · simp [h]
theorem gpL_len (l : List (Int × Int)) (m : Int) (k : Nat) : (gpL l m k).length ≤ k := by
  unfold gpL
  have := List.length_filter_le (gpB l m) (List.range k)
  simp only [List.length_map, List.length_range] at *
  omega
theorem gpL_one (l : List (Int × Int)) (m : Int) : gpL l m 1 = [] := by simp [gpL, gpB]
theorem gpL_zero (l : List (Int × Int)) (m : Int) : gpL l m 0 = [] := rfl
def gpK (id ze : Int) (nm : ByteArray) (l : List (Int × Int)) (m : Int) : Bool := gaugeB id nm ze l && inB m 1 10000
def gpR (id ze : Int) (nm : ByteArray) (l : List (Int × Int)) (m : Int) : List (Int × Int) := if gpK id ze nm l m then gpL l m l.length else []
theorem gpR_len (id ze : Int) (nm : ByteArray) (l : List (Int × Int)) (m : Int) : (gpR id ze nm l m).length ≤ 1048576 := by
  unfold gpR
  split
  · rename_i h
    unfold gpK at h
    rw [Bool.and_eq_true] at h
    have := gpL_len l m l.length
    have := (good_of_gauge h.1).2.2.2.1
    omega
  · simp
def pf (L : List (Int × Int)) (k i : Nat) : Int := if i = 0 then (L.getD k (0, 0)).1 else (L.getD k (0, 0)).2
/-- Rows of two numbers and a bool, handed back. -/
def RowsPost (L : List (Int × Int)) (K : Bool) (w : World) (e : Ending) (w' : World) : Prop :=
  ∃ A c G, e = .returned (.tuple #[.slice A L.length c, .bool K]) ∧ RF w' w.heap.size w'.heap.size A L.length G (pf L) ∧ Below w.heap.size w w'
def sl (G : List Nat) : List Value := G.map fun g => .slice (some ⟨g, 0, none⟩) 2 2
def In (w : World) (B : Nat) (G : List Nat) (L : List (Int × Int)) : Prop :=
  G.length = L.length ∧ Apart G ∧ ∀ (k g : Nat) (p : Int × Int), G[k]? = some g → L[k]? = some p → B ≤ g ∧ Has w g [.int .i64 p.1, .int .i64 p.2]
def Gp (w : World) (cs : List Value) (v : Value) (L : List (Int × Int)) (wr : World) : Prop := ∃ G, Acc w 44 1 cs v L.length (sl G) wr ∧ In wr w.heap.size G L
theorem Gp.next {w wr w1 : World} {cs : List Value} {v : Value} {L : List (Int × Int)} (h : Gp w cs v L wr) (hb : Below wr.heap.size wr w1) : Gp w cs v L w1 := by
  obtain ⟨G, hA, h1, h2, h3⟩ := h
  exact ⟨G, hA.next hb, h1, h2, fun k g p hg hp => ⟨(h3 k g p hg hp).1, (h3 k g p hg hp).2.next hb⟩⟩
theorem gp_start {w w2 : World} {cs : List Value} (hb : Below w.heap.size w w2) (hh : Has w2 w.heap.size cs) : Gp w cs (.slice (some ⟨w2.heap.size, 0, none⟩) 0 0) [] (w2.alloc (.cells #[] 44)) :=
  ⟨[], acc_start 44 1 hb hh, rfl, fun j k a h => by simp at h, fun k g p hg => by simp at hg⟩
theorem sl_at {G : List Nat} {k g : Nat} (h : G[k]? = some g) : (sl G)[k]? = some (.slice (some ⟨g, 0, none⟩) 2 2) := by unfold sl; rw [List.getElem?_map, h]; rfl
theorem row_cell_of {w : World} {B n : Nat} {T : TypeId} {v : Value} {G : List Nat} (h : w.ownsRow B T 1 v n (sl G)) {k gk : Nat} (hk : G[k]? = some gk) : ∃ g c, v = .slice (some ⟨g, 0, none⟩) n c ∧ B ≤ g ∧ g < w.heap.size ∧ v.ownBlock = some g ∧ w.cell? ⟨g, k, none⟩ = some (.slice (some ⟨gk, 0, none⟩) 2 2) := by
  have hl : G.length = n := by have := h.1; unfold sl at this; simpa using this
  have hkl : k < G.length := (List.getElem?_eq_some_iff.1 hk).1
  rcases h.2 with ⟨_, h0⟩ | ⟨g, cap, cur, hv, _⟩
  · omega
  subst hv
  refine ⟨g, cap, rfl, (h.lt g rfl).1, (h.lt g rfl).2, rfl, ?_⟩
  rw [h.cellAt k (by omega)]
  exact sl_at hk
theorem in_apart {w : World} {B B' n : Nat} {T : TypeId} {v : Value} {G : List Nat} {L : List (Int × Int)} (h : w.ownsRow B T 1 v n (sl G)) (hI : In w B' G L) {k g : Nat} (hg : G[k]? = some g) : v.ownBlock ≠ some g := fun e => by
  have h0 : 0 < G.length := Nat.lt_of_le_of_lt (Nat.zero_le k) (List.getElem?_eq_some_iff.1 hg).1
  obtain ⟨g0, hg0⟩ : ∃ g0, G[0]? = some g0 := ⟨_, List.getElem?_eq_getElem h0⟩
  obtain ⟨g', c, rfl, _, _, hv, hc⟩ := row_cell_of h hg0
  obtain rfl : g' = g := Option.some.inj (hv.symm.trans e)
  have hkl : k < L.length := by rw [← hI.1]; exact (List.getElem?_eq_some_iff.1 hg).1
  obtain ⟨p, hp⟩ : ∃ p, L[k]? = some p := ⟨_, List.getElem?_eq_getElem hkl⟩
  have h1 := (hI.2.2 k g' p hg hp).2.at_ 0 _ rfl
  rw [hc] at h1
  cases h1
theorem Gp.step {w wr w5 : World} {cs : List Value} {v v' : Value} {L : List (Int × Int)} {G : List Nat} {x y : Int} {m : Nat} (hA : Acc w 44 1 cs v L.length (sl G) wr) (hI : In wr w.heap.size G L)
    (ho : w5.ownsRow (w.heap.size + 1) 44 1 v' m (sl G ++ [.slice (some ⟨wr.heap.size, 0, none⟩) 2 2])) (hm : m = (L ++ [(x, y)]).length)
    (hg : ((wr.alloc (.cells #[.int .i64 x, .int .i64 y] 3)).alloc (.cells #[.slice (some ⟨wr.heap.size, 0, none⟩) 2 2] 44)).grownBy w5 v.ownBlock) : Gp w cs v' (L ++ [(x, y)]) w5 := by
  subst hm
  have hb1 : Below wr.heap.size wr (wr.alloc (.cells #[.int .i64 x, .int .i64 y] 3)) := (box1 (Below.refl _ _)).1
  have hh1 : Has (wr.alloc (.cells #[.int .i64 x, .int .i64 y] 3)) wr.heap.size [.int .i64 x, .int .i64 y] := (box1 (Below.refl _ _)).2
  have hsl : sl (G ++ [wr.heap.size]) = sl G ++ [.slice (some ⟨wr.heap.size, 0, none⟩) 2 2] := by simp [sl]
  refine ⟨G ++ [wr.heap.size], by rw [hsl]; exact (hA.next hb1).step ho hg, by simp [hI.1], ?_, ?_⟩
  · have hlt : ∀ (k a : Nat), G[k]? = some a → a < wr.heap.size := fun k a h => by
      have hkl : k < L.length := by rw [← hI.1]; exact (List.getElem?_eq_some_iff.1 h).1
      exact (hI.2.2 k a _ h (List.getElem?_eq_getElem hkl)).2.1
    have hcase : ∀ (k a : Nat), (G ++ [wr.heap.size])[k]? = some a → (G[k]? = some a) ∨ (k = G.length ∧ a = wr.heap.size) := fun k a h => by
      rw [List.getElem?_append] at h
      split at h
      · exact .inl h
      · rename_i hge
        have h2 := (List.getElem?_eq_some_iff.1 h).1
        simp only [List.length_singleton] at h2
        have e : k = G.length := by omega
        subst e
        rw [Nat.sub_self] at h
        exact .inr ⟨rfl, (Option.some.inj h).symm⟩
    intro j k a hj hk
    rcases hcase j a hj with h1 | ⟨h1, h2⟩ <;> rcases hcase k a hk with h3 | ⟨h3, h4⟩
    · exact hI.2.1 j k a h1 h3
    · have := hlt j a h1; omega
    · have := hlt k a h3; omega
    · omega
  · intro k g p hk hp
    rw [List.getElem?_append] at hk hp
    by_cases hlt : k < G.length
    · rw [if_pos hlt] at hk
      rw [if_pos (by rw [← hI.1]; exact hlt)] at hp
      obtain ⟨h1, h2⟩ := hI.2.2 k g p hk hp
      exact ⟨h1, has_grown ((h2.next hb1).alloc _) hg (fun e => in_apart hA.1 hI hk e.symm)⟩
    · rw [if_neg hlt] at hk
      rw [if_neg (by rw [← hI.1]; exact hlt)] at hp
      have h2 := (List.getElem?_eq_some_iff.1 hk).1
      simp only [List.length_singleton] at h2
      have e : k = G.length := by omega
      have e2 : k - L.length = 0 := by rw [← hI.1]; omega
      have e3 : k - G.length = 0 := by omega
      rw [e3] at hk
      rw [e2] at hp
      obtain rfl : wr.heap.size = g := Option.some.inj hk
      obtain rfl : (x, y) = p := Option.some.inj hp
      exact ⟨hA.2.1.size, has_grown (hh1.alloc _) hg (fun e => by have := (hA.1.lt _ e.symm).2; omega)⟩
theorem rows_of_gp {w w' : World} {cs : List Value} {v : Value} {L : List (Int × Int)} {K : Bool} (h : Gp w cs v L w') : RowsPost L K w (.returned (.tuple #[v, .bool K])) w' := by
  obtain ⟨G, hA, hI⟩ := h
  obtain ⟨A, c, rfl⟩ := own_slice hA.1
  refine ⟨A, c, G, rfl, ⟨hI.1, hI.2.1, fun k hk => ?_⟩, hA.2.1⟩
  obtain ⟨gk, hgk⟩ : ∃ gk, G[k]? = some gk := ⟨_, List.getElem?_eq_getElem (by rw [hI.1]; exact hk)⟩
  obtain ⟨g, c', hv, h1, h2, hvb, hc⟩ := row_cell_of hA.1 hgk
  injection hv with hv _ _
  obtain ⟨h3, h4⟩ := hI.2.2 k gk _ hgk (List.getElem?_eq_getElem hk)
  refine ⟨g, gk, hv, by omega, h2, hgk, h3, h4.1, fun e => in_apart hA.1 hI hgk (by rw [hvb, e]), hc, fun i hi => ⟨gk, rfl, Nat.le_refl _, Nat.lt_succ_self _, ?_, h4.free i⟩⟩
  have e : L.getD k (0, 0) = L[k] := by simp [List.getD, hk]
  unfold pf
  rw [e]
  rcases i with _ | _ | i
  · exact h4.at_ 0 _ rfl
  · exact h4.at_ 1 _ rfl
  · omega
def GpPost (id ze : Int) (nm : ByteArray) (l : List (Int × Int)) (m : Int) (w : World) : Ending → World → Prop := RowsPost (gpR id ze nm l m) (gpK id ze nm l m) w
theorem gp_no {id ze : Int} {nm : ByteArray} {l : List (Int × Int)} {m : Int} {w w' : World} {cs : List Value} {v : Value} (hk : gpK id ze nm l m = false) (h : Gp w cs v [] w') : GpPost id ze nm l m w (.returned (.tuple #[v, .bool false])) w' := by
  unfold GpPost gpR
  rw [hk]
  exact rows_of_gp h
theorem gp_yes {id ze : Int} {nm : ByteArray} {l : List (Int × Int)} {m : Int} {w w' : World} {cs : List Value} {v : Value} (hk : gpK id ze nm l m = true) (h : Gp w cs v (gpL l m l.length) w') : GpPost id ze nm l m w (.returned (.tuple #[v, .bool true])) w' := by
  unfold GpPost gpR
  rw [hk]
  exact rows_of_gp h
set_option maxRecDepth 20000 in
set_option maxHeartbeats 3200000 in
theorem gaps_impl (id ze : Int) (nm : ByteArray) (A : Option Addr) (n c : Nat) (l : List (Int × Int)) (m : Int) (w : World) (hs : Spots w w.heap.size A n l) (hm : n ≤ maxLen) (hn : nm.size ≤ maxLen) :
    Calls Try.prog 16 #[.agg #[.int .i64 id, .string nm, .int .i64 ze, .slice A n c], .int .i64 m] w (GpPost id ze nm l m w) := by
  obtain rfl := hs.1
  obtain ⟨i0, hi, hz0, hz1, hz2⟩ := info_parts infoInts
  have HI := Lib.hid (And.intro hi (And.intro hz0 (And.intro hz1 hz2)))
  clear hi hz0 hz1 hz2
  have HX := Lib.hid (box1 (cs := #[.int .i64 id, .string nm, .int .i64 ze, .slice A l.length c]) (T := 26) (Below.refl _ _) (w := w))
  have HS := Lib.hid (spots_alloc hs (.cells #[.int .i64 id, .string nm, .int .i64 ze, .slice A l.length c] 26))
  have HSw := Lib.hid hs
  clear hs
  rcases hg : gaugeB id nm ze l with _ | _
  · have HG := Lib.hid hg
    have HK : Hid (gpK id ze nm l m = false) := by unfold Hid gpK; rw [hg]; rfl
    clear hg
    go_enter Try.func16, Try.ntmps16
    go_wp2_with fail
    refine (isGauge_v _ _ _ _ _ _ l _ HG.out _ HS.out hm hn).mono ?_
    rintro e w1 ⟨rfl, hb⟩
    have HN := Lib.hid (gp_start (bthen HX.out.1 hb HX.out.1.size) (HX.out.2.next hb))
    clear hb
    go_wp2_with fail
    go_ret2
    exact gp_no HK.out HN.out
  rcases hmi : inB m 1 10000 with _ | _
  · have HG := Lib.hid hg
    have HM := Lib.hid hmi
    have HK : Hid (gpK id ze nm l m = false) := by unfold Hid gpK; rw [hg, hmi]; rfl
    clear hg hmi
    go_enter Try.func16, Try.ntmps16
    go_wp2_with fail
    refine (isGauge_v _ _ _ _ _ _ l _ HG.out _ HS.out hm hn).mono ?_
    rintro e w1 ⟨rfl, hb⟩
    have HN := Lib.hid (gp_start (bthen HX.out.1 hb HX.out.1.size) (HX.out.2.next hb))
    clear hb
    go_wp2_with fail
    refine (within_v _ _ _ _ HM.out _).mono ?_
    rintro e w' ⟨rfl, rfl⟩
    go_wp2_with fail
    go_ret2
    exact gp_no HK.out HN.out
  have HG := Lib.hid hg
  have HM := Lib.hid hmi
  have HK : Hid (gpK id ze nm l m = true) := by unfold Hid gpK; rw [hg, hmi]; rfl
  have HGG := Lib.hid (good_of_gauge hg).2.2.2.2
  have h15 := (good_of_gauge hg).2.2.2.1
  have hmb := inB_yes hmi
  obtain ⟨hmb1, hmb2⟩ := hmb
  clear hg hmi
  go_enter Try.func16, Try.ntmps16
  go_wp2_with fail
  refine (isGauge_v _ _ _ _ _ _ l _ HG.out _ HS.out hm hn).mono ?_
  rintro e w1 ⟨rfl, hb⟩
  have HN := Lib.hid (gp_start (bthen HX.out.1 hb HX.out.1.size) (HX.out.2.next hb))
  clear hb
  obtain ⟨V1, hV1⟩ : ∃ V, V = w1.alloc (.cells #[] 44) := ⟨_, rfl⟩
  rw [← hV1] at HN
  go_wp2_with fail
  refine (within_v _ _ _ _ HM.out _).mono ?_
  rintro e w' ⟨rfl, rfl⟩
  go_wp2_with fail
  try rw [← hV1]
  clear hV1
  go_loopw [6, 7] (fun s i wr => ∃ (k : Nat) (v : Value), 1 ≤ k ∧ (k ≤ l.length ∨ k ≤ 1) ∧ i = .int .i64 k ∧ s = v ∧ Hid (Gp w [.int .i64 id, .string nm, .int .i64 ze, .slice A l.length c] v (gpL l m k) wr)) (fun _ i _ => l.length - (intOf i).toNat)
  case atStart => exact ⟨1, _, Nat.le_refl _, .inr (Nat.le_refl _), rfl, rfl, (by rw [gpL_one]; exact HN)⟩
  case round =>
    obtain ⟨k, v, hk1, hk2, rfl, rfl, hR⟩ := hrel
    obtain ⟨W0, rfl⟩ : ∃ W : World, W = wr := ⟨_, rfl⟩
    obtain ⟨G, hA, hIn⟩ := hR.out
    have HA := Lib.hid hA
    have HIn := Lib.hid hIn
    clear hA hIn
    have g3 := HA.out.2.2.at_ 3 _ rfl
    by_cases hlt : k < l.length
    · obtain ⟨b0, o0, x, y, rfl, hb0, hl0, c0, c1⟩ := (spots_more HSw.out HA.out.2.1).2 k hlt
      obtain ⟨b1, o1, x1, y1, hA1, hb1, hl1, d0, d1⟩ := (spots_more HSw.out HA.out.2.1).2 (k - 1) (by omega)
      obtain ⟨rfl, rfl⟩ : b0 = b1 ∧ o0 = o1 := by injection hA1 with h; injection h with h h'; exact ⟨h, h'⟩
      have HQ : Hid (gpB l m k = decide (m < x - x1) ∧ tmAt l k = x ∧ tmAt l (k - 1) = x1) := Lib.hid ⟨by unfold gpB; rw [tm_of hl0, tm_of hl1]; simp [hk1], tm_of hl0, tm_of hl1⟩
      have hx := (read_at HGG.out hlt).1
      have hx1 := (read_at HGG.out (show k - 1 < l.length by omega)).1
      rw [HQ.out.2.1] at hx
      rw [HQ.out.2.2] at hx1
      obtain ⟨hx0, hx9⟩ := hx
      obtain ⟨hx10, hx19⟩ := hx1
      have hlen := gpL_len l m k
      clear hl0 hl1 hA1 c1 d1
      obtain ⟨j, hj⟩ : ∃ j, k = j + 1 := ⟨k - 1, by omega⟩
      subst hj
      rw [Nat.add_sub_cancel] at d0
      rcases hq : gpB l m (j + 1) with _ | _
      · have HV : Hid (gpL l m (j + 1 + 1) = gpL l m (j + 1)) := by unfold Hid; rw [gpL_succ, hq]; simp
        have hq' : ¬ m < x - x1 := by have := HQ.out.1; rw [hq] at this; exact of_decide_eq_false this.symm
        have hd : decide (m < x - x1) = false := decide_eq_false hq'
        clear hq hq'
        go_wp2_with fail
        have lc0 := lcell (g3)
        have lc1 := lcell (c0)
        have lc2 := lcell (d0)
        refine region_later (W := W0) (by kernel_rfl) (by kernel_rfl) (Below.refl _ _) ?_
        repeat (go_big_quiet_step (fail))
        refine wpQuiet_nil ?_
        intro W3 hW1
        have HL : Hid (Below W0.heap.size W0 W3) := by obtain ⟨x, rfl⟩ := hW1; exact Lib.hid x.below
        clear hW1 lc0 lc1 lc2
        have hn3 := hR.out.next HL.out
        rw [← HV.out] at hn3
        have HN3 := Lib.hid hn3
        clear hn3 g3 c0 d0
        go_wp2_with fail
        go_roundw
        case rel => exact ⟨j + 1 + 1, _, by omega, .inl (by omega), by go_num, rfl, HN3⟩
        case measure => simp [intOf]; omega
      · have HV : Hid (gpL l m (j + 1 + 1) = gpL l m (j + 1) ++ [(x1, x)]) := by unfold Hid; rw [gpL_succ, hq, if_pos rfl, HQ.out.2.1, HQ.out.2.2]
        have hq' : m < x - x1 := by have := HQ.out.1; rw [hq] at this; exact of_decide_eq_true this.symm
        have hd : decide (m < x - x1) = true := decide_eq_true hq'
        clear hq hq'
        go_wp2_with fail
        have lc0 := lcell (g3)
        have lc1 := lcell (c0)
        have lc2 := lcell (d0)
        refine region_later (W := W0) (by kernel_rfl) (by kernel_rfl) (Below.refl _ _) ?_
        repeat (go_big_quiet_step (fail))
        refine wpQuiet_nil ?_
        intro W3 hW1
        have HL : Hid (Below W0.heap.size W0 W3) := by obtain ⟨x, rfl⟩ := hW1; exact Lib.hid x.below
        clear hW1 lc0 lc1 lc2
        have HA3 := Lib.hid (HA.out.next HL.out)
        have HIn3 : Hid (In W3 w.heap.size G (gpL l m (j + 1))) := Lib.hid ⟨HIn.out.1, HIn.out.2.1, fun k g p hg hp => ⟨(HIn.out.2.2 k g p hg hp).1, (HIn.out.2.2 k g p hg hp).2.next HL.out⟩⟩
        clear g3 c0 d0
        go_wp2_with (at_builtin; go_loud (refine wpList_append_own _ rfl _ _ 40 rfl (w.heap.size + 1) 44 i0 (.slice none 0 0) 1 24 Try.underlying40 HI.out.1 HI.out.2.1 HI.out.2.2.1 HI.out.2.2.2 rfl (by decide) _ _ _ rfl ((HA3.out.1.alloc _).alloc _) ⟨W3.heap.size + 1, 0, none⟩ 1 1 [.slice (some ⟨W3.heap.size, 0, none⟩) 2 2] rfl rfl (by have h := cell_one_new (W3.alloc (.cells #[.int .i64 x1, .int .i64 x] 3)) (.slice (some ⟨W3.heap.size, 0, none⟩) 2 2) 44; rw [World.size_alloc] at h; exact h) (by simp [Value.oneCell']) (by unfold maxLen; omega) (by omega) (by have := HA3.out.2.1.size; have := HA3.out.2.2.1; simp; omega) ?_; intro v' w5 hown' hgrow _; have HN := Lib.hid (Gp.step HA3.out HIn3.out hown' (by simp) hgrow); clear hown' hgrow))
        have hn3 := HN.out
        rw [← HV.out] at hn3
        have HN3 := Lib.hid hn3
        clear hn3
        go_roundw
        case rel => exact ⟨j + 1 + 1, _, by omega, .inl (by omega), by go_num, rfl, HN3⟩
        case measure => simp [intOf]; omega
    · have hkl : gpL l m k = gpL l m l.length := by
        rcases hk2 with h | h
        · have : k = l.length := by omega
          rw [this]
        · have e : k = 1 := by omega
          subst e
          rw [gpL_one]
          have h2 : l.length = 0 ∨ l.length = 1 := by omega
          rcases h2 with h2 | h2
          · rw [h2, gpL_zero]
          · rw [h2, gpL_one]
      have hP := gp_yes HK.out (hkl ▸ hR.out)
      have HP := Lib.hid hP
      clear hP hkl
      go_wp2_with fail
      go_ret2
      exact HP.out
end Go.Proofs.Ytlggcfeclbcfaaa
