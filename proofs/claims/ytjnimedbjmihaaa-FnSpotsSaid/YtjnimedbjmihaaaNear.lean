/-
  Contracts of impl.NearestSpot, spec.NearestSpot over this translation. Conditions: stated at each theorem.
-/
import Derived.Test.YtjnimedbjmihaaaSq
namespace Go.Proofs.Ytjnimedbjmihaaa
open Go.RowKit

/-- The square from the i-th spot. -/
def sqAt (l : List (Int × Int)) (px py : Int) (i : Nat) : Int := sqI (l.getD i (0, 0)).1 (l.getD i (0, 0)).2 px py
theorem sqAt_of {l : List (Int × Int)} {i : Nat} {x y : Int} (h : l[i]? = some (x, y)) (px py : Int) : sqAt l px py i = sqI x y px py := by
  unfold sqAt
  rw [List.getD_eq_getElem?_getD, h]; rfl
/-- The nearest among the first k. -/
def nearK (l : List (Int × Int)) (px py : Int) : Nat → Nat
  | 0 => 0
  | k + 1 => if sqAt l px py k < sqAt l px py (nearK l px py k) then k else nearK l px py k
theorem nearK_yes {l : List (Int × Int)} {px py : Int} {k b : Nat} (hb : b = nearK l px py k) (h : sqAt l px py k < sqAt l px py b) : k = nearK l px py (k + 1) := by
  subst hb
  show _ = if _ then _ else _
  rw [if_pos h]
theorem nearK_no {l : List (Int × Int)} {px py : Int} {k b : Nat} (hb : b = nearK l px py k) (h : ¬ sqAt l px py k < sqAt l px py b) : b = nearK l px py (k + 1) := by
  subst hb
  show _ = if _ then _ else _
  rw [if_neg h]
def nearOk (l : List (Int × Int)) (px py : Int) : Bool := spotsB l && spotB px py && decide (0 < l.length)
def nearI (l : List (Int × Int)) (px py : Int) : Int := if nearOk l px py = true then ((nearK l px py l.length : Nat) : Int) else 0
theorem near_no {l : List (Int × Int)} {px py : Int} (h : nearOk l px py = false) : Ending.returned (.tuple #[.int .i64 0, .bool false]) = .returned (.tuple #[.int .i64 (nearI l px py), .bool (nearOk l px py)]) :=
  ret_ib (by unfold nearI; rw [h]; rfl) h.symm
theorem near_yes {l : List (Int × Int)} {px py : Int} (h : nearOk l px py = true) {b : Nat} (hb : b = nearK l px py l.length) : Ending.returned (.tuple #[.int .i64 b, .bool true]) = .returned (.tuple #[.int .i64 (nearI l px py), .bool (nearOk l px py)]) :=
  ret_ib (by unfold nearI; rw [if_pos h, hb]) h.symm
def NearPost (l : List (Int × Int)) (px py : Int) (w : World) (e : Ending) (w' : World) : Prop :=
  e = .returned (.tuple #[.int .i64 (nearI l px py), .bool (nearOk l px py)]) ∧ Below w.heap.size w w'
theorem are_impl_v (v : Bool) (A : Option Addr) (n c : Nat) (l : List (Int × Int)) (w : World) (hs : Spots w w.heap.size A n l) (hm : n ≤ maxLen) (h : spotsB l = v) :
    Calls Try.prog 19 #[.slice A n c] w fun e w' => e = .returned (.bool v) ∧ Below w.heap.size w w' := h ▸ are_impl A n c l w hs hm
theorem l2Spots_v (v : Bool) (A : Option Addr) (n c : Nat) (l : List (Int × Int)) (w : World) (hs : Spots w w.heap.size A n l) (hm : n ≤ maxLen) (h : spotsB l = v) :
    Calls Try.prog 57 #[.slice A n c] w fun e w' => e = .returned (.bool v) ∧ Below w.heap.size w w' := h ▸ l2Spots_any A n c l w hs hm
theorem spots_alloc {w : World} {n : Nat} {A : Option Addr} {l : List (Int × Int)} (h : Spots w w.heap.size A n l) (o : Obj) : Spots (w.alloc o) (w.alloc o).heap.size A n l :=
  spots_more h ((Below.refl _ _).alloc (Nat.le_refl _) o)
set_option maxHeartbeats 1600000 in
theorem near_impl (A : Option Addr) (c : Nat) (l : List (Int × Int)) (px py : Int) (w : World) (hs : Spots w w.heap.size A l.length l) (hm : l.length ≤ maxLen) :
    Calls Try.prog 17 #[.slice A l.length c, .agg #[.int .i64 px, .int .i64 py]] w (NearPost l px py w) := by
  have HS := Lib.hid hs
  clear hs
  rcases h1 : spotsB l with _ | _
  · have H1 := Lib.hid h1
    have HR := Lib.hid (near_no (l := l) (px := px) (py := py) (by unfold nearOk; rw [h1]; rfl))
    clear h1
    go_enter Try.func17, Try.ntmps17
    go_wp2_with fail
    refine (are_impl_v _ _ _ _ l _ (spots_alloc HS.out _) hm H1.out).mono ?_
    rintro e w1 ⟨rfl, hb⟩
    have HB := Lib.hid (box1 hb)
    clear hb
    go_wp2_with fail
    go_ret2
    exact ⟨HR.out, HB.out.1⟩
  rcases h2 : spotB px py with _ | _
  · have H1 := Lib.hid h1
    have H2 := Lib.hid h2
    have HR := Lib.hid (near_no (l := l) (px := px) (py := py) (by unfold nearOk; rw [h1, h2]; rfl))
    clear h1 h2
    go_enter Try.func17, Try.ntmps17
    go_wp2_with fail
    refine (are_impl_v _ _ _ _ l _ (spots_alloc HS.out _) hm H1.out).mono ?_
    rintro e w1 ⟨rfl, hb⟩
    have HB := Lib.hid (box1 hb)
    clear hb
    have c0 := HB.out.2.at_ 0 _ rfl
    have c1 := HB.out.2.at_ 1 _ rfl
    go_wp2_with fail
    refine (isSpot_impl_v px py _ H2.out _).mono ?_
    rintro e w2 ⟨rfl, hb⟩
    have HB2 := Lib.hid (bthen HB.out.1 hb HB.out.1.size)
    clear hb c0 c1
    go_wp2_with fail
    go_ret2
    exact ⟨HR.out, HB2.out⟩
  by_cases h3 : 0 < l.length
  · have H1 := Lib.hid h1
    have H2 := Lib.hid h2
    have HK := Lib.hid (show nearOk l px py = true by unfold nearOk; rw [h1, h2, decide_eq_true h3]; rfl)
    have HG : Hid (∀ k x y, l[k]? = some (x, y) → Grid x ∧ Grid y) := fun k x y hk => spotsB_at h1 hk
    have gp : Grid px ∧ Grid py := spotB_yes h2
    obtain ⟨gp1, gp2⟩ := gp
    have h0 : ((l.length : Int) == 0) = false := beq_eq_false_iff_ne.2 (by omega)
    clear h1 h2
    go_enter Try.func17, Try.ntmps17
    go_wp2_with fail
    refine (are_impl_v _ _ _ _ l _ (spots_alloc HS.out _) hm H1.out).mono ?_
    rintro e w1 ⟨rfl, hb⟩
    have HB := Lib.hid (box1 hb)
    have HS1 := Lib.hid (spots_more (spots_alloc HS.out _) hb)
    clear hb
    have c0 := HB.out.2.at_ 0 _ rfl
    have c1 := HB.out.2.at_ 1 _ rfl
    go_wp2_with fail
    refine (isSpot_impl_v px py _ H2.out _).mono ?_
    rintro e w2 ⟨rfl, hb⟩
    have HB2 := Lib.hid (bthen HB.out.1 hb HB.out.1.size)
    have HS2 := Lib.hid (spots_more HS1.out hb)
    have d0 := cell_next hb c0
    have d1 := cell_next hb c1
    clear hb c0 c1
    unfold maxLen at hm
    go_wp2_with fail
    go_loopw [6, 24] (fun b i wr => ∃ k j : Nat, k ≤ l.length ∧ j < l.length ∧ i = .int .i64 k ∧ b = .int .i64 j ∧ Hid (j = nearK l px py k) ∧ wr.cell? ⟨w.heap.size, 0, none⟩ = some (.int .i64 px) ∧ wr.cell? ⟨w.heap.size, 1, none⟩ = some (.int .i64 py) ∧ Hid (Below w2.heap.size w2 wr)) (fun _ i _ => l.length - (intOf i).toNat)
    case atStart => exact ⟨0, 0, Nat.zero_le _, h3, rfl, rfl, rfl, d0, d1, Lib.hid (Below.refl _ _)⟩
    case round =>
      obtain ⟨k, j, hk, hj, rfl, rfl, hN, e0, e1, hB⟩ := hrel
      clear d0 d1
      by_cases hlt : k < l.length
      · have HSr := spots_more HS2.out hB.out
        obtain ⟨b1, o1, x, y, rfl, hb1, hl1, c0, c1⟩ := HSr.2 k hlt
        obtain ⟨b2, o2, x2, y2, hAe, hb2, hl2, c2, c3⟩ := HSr.2 j hj
        obtain ⟨rfl, rfl⟩ : b1 = b2 ∧ o1 = o2 := by injection hAe with h; injection h with h h'; exact ⟨h, h'⟩
        obtain ⟨gx, gy⟩ := HG.out _ _ _ hl1
        obtain ⟨gx2, gy2⟩ := HG.out _ _ _ hl2
        have HL := Lib.hid (And.intro hl1 hl2)
        clear hl1 hl2 HSr hAe
        go_wp2_with fail
        have a0 : (wr.alloc (.cells #[.int .i64 x, .int .i64 y] 26)).cell? ⟨wr.heap.size, 0, none⟩ = some (.int .i64 x) := World.cell?_alloc_new _ _ _ _
        have a1 : (wr.alloc (.cells #[.int .i64 x, .int .i64 y] 26)).cell? ⟨wr.heap.size, 1, none⟩ = some (.int .i64 y) := World.cell?_alloc_new _ _ _ _
        have BA := (Below.refl wr.heap.size wr).alloc (Nat.le_refl _) (.cells #[.int .i64 x, .int .i64 y] 26)
        have a2 := cell_next BA e0
        have a3 := cell_next BA e1
        have a4 := cell_next BA c2
        have a5 := cell_next BA c3
        have HBA := Lib.hid (bthen hB.out BA hB.out.size)
        have HQ1 := Lib.hid (sqAt_of HL.out.1 px py)
        have HQ2 := Lib.hid (sqAt_of HL.out.2 px py)
        clear BA
        by_cases hq : sqI x y px py < sqI x2 y2 px py
        · have HN : Hid (k = nearK l px py (k + 1)) := nearK_yes hN.out (by rw [HQ1.out, HQ2.out]; exact hq)
          go_region_held3 (fun W => W.cell? ⟨wr.heap.size, 0, none⟩ = some (.int .i64 x) ∧ W.cell? ⟨wr.heap.size, 1, none⟩ = some (.int .i64 y) ∧ W.cell? ⟨w.heap.size, 0, none⟩ = some (.int .i64 px) ∧ W.cell? ⟨w.heap.size, 1, none⟩ = some (.int .i64 py) ∧ W.cell? ⟨b1, o1 + j * 2, none⟩ = some (.int .i64 x2) ∧ W.cell? ⟨b1, o1 + j * 2 + 1, none⟩ = some (.int .i64 y2) ∧ Hid (Below w2.heap.size w2 W)) (first | (exact ⟨a0, a1, a2, a3, a4, a5, Lib.hid HBA.out.drew⟩) | assumption | (exact next6 hb (by assumption))) ((go_at_call 56; refine (sq_impl _ _ _ _ (by assumption) (by assumption) (by assumption) (by assumption) _).mono ?_; rintro e w1 ⟨rfl, hb⟩; dsimp only))
          have hk6 : w1.cell? ⟨wr.heap.size, 0, none⟩ = some (.int .i64 x) ∧ w1.cell? ⟨wr.heap.size, 1, none⟩ = some (.int .i64 y) ∧ w1.cell? ⟨w.heap.size, 0, none⟩ = some (.int .i64 px) ∧ w1.cell? ⟨w.heap.size, 1, none⟩ = some (.int .i64 py) ∧ w1.cell? ⟨b1, o1 + j * 2, none⟩ = some (.int .i64 x2) ∧ w1.cell? ⟨b1, o1 + j * 2 + 1, none⟩ = some (.int .i64 y2) ∧ Hid (Below w2.heap.size w2 w1) := by assumption
          obtain ⟨_, _, f0, f1, _, _, HBf⟩ := hk6
          clear a0 a1 a2 a3 a4 a5 c0 c1 c2 c3
          go_wp2_with fail
          go_roundw
          case rel => exact ⟨k + 1, k, by omega, hlt, by go_num, rfl, HN, f0, f1, HBf⟩
          case measure => simp [intOf]; omega
        · have HN : Hid (j = nearK l px py (k + 1)) := nearK_no hN.out (by rw [HQ1.out, HQ2.out]; exact hq)
          go_region_held3 (fun W => W.cell? ⟨wr.heap.size, 0, none⟩ = some (.int .i64 x) ∧ W.cell? ⟨wr.heap.size, 1, none⟩ = some (.int .i64 y) ∧ W.cell? ⟨w.heap.size, 0, none⟩ = some (.int .i64 px) ∧ W.cell? ⟨w.heap.size, 1, none⟩ = some (.int .i64 py) ∧ W.cell? ⟨b1, o1 + j * 2, none⟩ = some (.int .i64 x2) ∧ W.cell? ⟨b1, o1 + j * 2 + 1, none⟩ = some (.int .i64 y2) ∧ Hid (Below w2.heap.size w2 W)) (first | (exact ⟨a0, a1, a2, a3, a4, a5, Lib.hid HBA.out.drew⟩) | assumption | (exact next6 hb (by assumption))) ((go_at_call 56; refine (sq_impl _ _ _ _ (by assumption) (by assumption) (by assumption) (by assumption) _).mono ?_; rintro e w1 ⟨rfl, hb⟩; dsimp only))
          have hk6 : w1.cell? ⟨wr.heap.size, 0, none⟩ = some (.int .i64 x) ∧ w1.cell? ⟨wr.heap.size, 1, none⟩ = some (.int .i64 y) ∧ w1.cell? ⟨w.heap.size, 0, none⟩ = some (.int .i64 px) ∧ w1.cell? ⟨w.heap.size, 1, none⟩ = some (.int .i64 py) ∧ w1.cell? ⟨b1, o1 + j * 2, none⟩ = some (.int .i64 x2) ∧ w1.cell? ⟨b1, o1 + j * 2 + 1, none⟩ = some (.int .i64 y2) ∧ Hid (Below w2.heap.size w2 w1) := by assumption
          obtain ⟨_, _, f0, f1, _, _, HBf⟩ := hk6
          clear a0 a1 a2 a3 a4 a5 c0 c1 c2 c3
          go_wp2_with fail
          go_roundw
          case rel => exact ⟨k + 1, j, by omega, hj, by go_num, rfl, HN, f0, f1, HBf⟩
          case measure => simp [intOf]; omega
      · obtain rfl : k = l.length := by omega
        have HR := Lib.hid (near_yes HK.out hN.out)
        have HF := Lib.hid (bthen HB2.out hB.out HB2.out.size)
        go_wp2_with fail
        go_ret2
        exact ⟨HR.out, HF.out⟩
  · have H1 := Lib.hid h1
    have H2 := Lib.hid h2
    have HR := Lib.hid (near_no (l := l) (px := px) (py := py) (by unfold nearOk; rw [decide_eq_false h3, Bool.and_false]))
    have hz : l.length ≤ 0 := by omega
    have h0 : ((l.length : Int) == 0) = true := by simpa using hz
    clear h1 h2 h3 hz
    go_enter Try.func17, Try.ntmps17
    go_wp2_with fail
    refine (are_impl_v _ _ _ _ l _ (spots_alloc HS.out _) hm H1.out).mono ?_
    rintro e w1 ⟨rfl, hb⟩
    have HB := Lib.hid (box1 hb)
    clear hb
    have c0 := HB.out.2.at_ 0 _ rfl
    have c1 := HB.out.2.at_ 1 _ rfl
    go_wp2_with fail
    refine (isSpot_impl_v px py _ H2.out _).mono ?_
    rintro e w2 ⟨rfl, hb⟩
    have HB2 := Lib.hid (bthen HB.out.1 hb HB.out.1.size)
    clear hb c0 c1
    go_wp2_with fail
    go_ret2
    exact ⟨HR.out, HB2.out⟩
theorem nearK_one (l : List (Int × Int)) (px py : Int) : 0 = nearK l px py 1 := by
  show 0 = if _ then 0 else 0
  split <;> rfl
set_option maxHeartbeats 1600000 in
theorem near_spec (A : Option Addr) (c : Nat) (l : List (Int × Int)) (px py : Int) (w : World) (hs : Spots w w.heap.size A l.length l) (hm : l.length ≤ maxLen) :
    Calls Try.prog 18 #[.slice A l.length c, .agg #[.int .i64 px, .int .i64 py]] w (NearPost l px py w) := by
  have HS := Lib.hid hs
  clear hs
  rcases h1 : spotsB l with _ | _
  · have H1 := Lib.hid h1
    have HR := Lib.hid (near_no (l := l) (px := px) (py := py) (by unfold nearOk; rw [h1]; rfl))
    clear h1
    go_enter Try.func18, Try.ntmps18
    go_wp2_with fail
    refine (l2Spots_v _ _ _ _ l _ (spots_alloc HS.out _) hm H1.out).mono ?_
    rintro e w1 ⟨rfl, hb⟩
    have HB := Lib.hid (box1 hb)
    clear hb
    go_wp2_with fail
    go_ret2
    exact ⟨HR.out, HB.out.1⟩
  rcases h2 : spotB px py with _ | _
  · have H1 := Lib.hid h1
    have H2 := Lib.hid h2
    have HR := Lib.hid (near_no (l := l) (px := px) (py := py) (by unfold nearOk; rw [h1, h2]; rfl))
    clear h1 h2
    go_enter Try.func18, Try.ntmps18
    go_wp2_with fail
    refine (l2Spots_v _ _ _ _ l _ (spots_alloc HS.out _) hm H1.out).mono ?_
    rintro e w1 ⟨rfl, hb⟩
    have HB := Lib.hid (box1 hb)
    clear hb
    have c0 := HB.out.2.at_ 0 _ rfl
    have c1 := HB.out.2.at_ 1 _ rfl
    go_wp2_with fail
    refine (l2Spot_v px py _ H2.out _).mono ?_
    rintro e w2 ⟨rfl, hb⟩
    have HB2 := Lib.hid (bthen HB.out.1 hb HB.out.1.size)
    clear hb c0 c1
    go_wp2_with fail
    go_ret2
    exact ⟨HR.out, HB2.out⟩
  by_cases h3 : 0 < l.length
  · have H1 := Lib.hid h1
    have H2 := Lib.hid h2
    have HK := Lib.hid (show nearOk l px py = true by unfold nearOk; rw [h1, h2, decide_eq_true h3]; rfl)
    have HG : Hid (∀ k x y, l[k]? = some (x, y) → Grid x ∧ Grid y) := fun k x y hk => spotsB_at h1 hk
    have gp : Grid px ∧ Grid py := spotB_yes h2
    obtain ⟨gp1, gp2⟩ := gp
    have h0 : ((l.length : Int) == 0) = false := beq_eq_false_iff_ne.2 (by omega)
    clear h1 h2
    go_enter Try.func18, Try.ntmps18
    go_wp2_with fail
    refine (l2Spots_v _ _ _ _ l _ (spots_alloc HS.out _) hm H1.out).mono ?_
    rintro e w1 ⟨rfl, hb⟩
    have HB := Lib.hid (box1 hb)
    have HS1 := Lib.hid (spots_more (spots_alloc HS.out _) hb)
    clear hb
    have c0 := HB.out.2.at_ 0 _ rfl
    have c1 := HB.out.2.at_ 1 _ rfl
    go_wp2_with fail
    refine (l2Spot_v px py _ H2.out _).mono ?_
    rintro e w2 ⟨rfl, hb⟩
    have HB2 := Lib.hid (bthen HB.out.1 hb HB.out.1.size)
    have HS2 := Lib.hid (spots_more HS1.out hb)
    have d0 := cell_next hb c0
    have d1 := cell_next hb c1
    clear hb c0 c1
    unfold maxLen at hm
    go_wp2_with fail
    go_loopw [6, 7] (fun b i wr => ∃ k j : Nat, k ≤ l.length ∧ j < l.length ∧ i = .int .i64 k ∧ b = .int .i64 j ∧ Hid (j = nearK l px py k) ∧ wr.cell? ⟨w.heap.size, 0, none⟩ = some (.int .i64 px) ∧ wr.cell? ⟨w.heap.size, 1, none⟩ = some (.int .i64 py) ∧ Hid (Below w2.heap.size w2 wr)) (fun _ i _ => l.length - (intOf i).toNat)
    case atStart => exact ⟨1, 0, h3, h3, rfl, rfl, nearK_one _ _ _, d0, d1, Lib.hid (Below.refl _ _)⟩
    case round =>
      obtain ⟨k, j, hk, hj, rfl, rfl, hN, e0, e1, hB⟩ := hrel
      clear d0 d1
      by_cases hlt : k < l.length
      · have HSr := spots_more HS2.out hB.out
        obtain ⟨b1, o1, x, y, rfl, hb1, hl1, c0, c1⟩ := HSr.2 k hlt
        obtain ⟨b2, o2, x2, y2, hAe, hb2, hl2, c2, c3⟩ := HSr.2 j hj
        obtain ⟨rfl, rfl⟩ : b1 = b2 ∧ o1 = o2 := by injection hAe with h; injection h with h h'; exact ⟨h, h'⟩
        obtain ⟨gx, gy⟩ := HG.out _ _ _ hl1
        obtain ⟨gx2, gy2⟩ := HG.out _ _ _ hl2
        have HL := Lib.hid (And.intro hl1 hl2)
        clear hl1 hl2 HSr hAe
        go_wp2_with fail
        have HQ1 := Lib.hid (sqAt_of HL.out.1 px py)
        have HQ2 := Lib.hid (sqAt_of HL.out.2 px py)
        by_cases hq : sqI x y px py < sqI x2 y2 px py
        · have HN : Hid (k = nearK l px py (k + 1)) := nearK_yes hN.out (by rw [HQ1.out, HQ2.out]; exact hq)
          go_region_held3 (fun W => W.cell? ⟨b1, o1 + k * 2, none⟩ = some (.int .i64 x) ∧ W.cell? ⟨b1, o1 + k * 2 + 1, none⟩ = some (.int .i64 y) ∧ W.cell? ⟨w.heap.size, 0, none⟩ = some (.int .i64 px) ∧ W.cell? ⟨w.heap.size, 1, none⟩ = some (.int .i64 py) ∧ W.cell? ⟨b1, o1 + j * 2, none⟩ = some (.int .i64 x2) ∧ W.cell? ⟨b1, o1 + j * 2 + 1, none⟩ = some (.int .i64 y2) ∧ Hid (Below w2.heap.size w2 W)) (first | (exact ⟨c0, c1, e0, e1, c2, c3, Lib.hid hB.out.drew⟩) | assumption | (exact next6 hb (by assumption))) ((go_at_call 59; refine (sq_spec _ _ _ _ (by assumption) (by assumption) (by assumption) (by assumption) _).mono ?_; rintro e w1 ⟨rfl, hb⟩; dsimp only))
          have hk6 : w1.cell? ⟨b1, o1 + k * 2, none⟩ = some (.int .i64 x) ∧ w1.cell? ⟨b1, o1 + k * 2 + 1, none⟩ = some (.int .i64 y) ∧ w1.cell? ⟨w.heap.size, 0, none⟩ = some (.int .i64 px) ∧ w1.cell? ⟨w.heap.size, 1, none⟩ = some (.int .i64 py) ∧ w1.cell? ⟨b1, o1 + j * 2, none⟩ = some (.int .i64 x2) ∧ w1.cell? ⟨b1, o1 + j * 2 + 1, none⟩ = some (.int .i64 y2) ∧ Hid (Below w2.heap.size w2 w1) := by assumption
          obtain ⟨_, _, f0, f1, _, _, HBf⟩ := hk6
          clear c0 c1 c2 c3
          go_wp2_with fail
          go_roundw
          case rel => exact ⟨k + 1, k, by omega, hlt, by go_num, rfl, HN, f0, f1, HBf⟩
          case measure => simp [intOf]; omega
        · have HN : Hid (j = nearK l px py (k + 1)) := nearK_no hN.out (by rw [HQ1.out, HQ2.out]; exact hq)
          go_region_held3 (fun W => W.cell? ⟨b1, o1 + k * 2, none⟩ = some (.int .i64 x) ∧ W.cell? ⟨b1, o1 + k * 2 + 1, none⟩ = some (.int .i64 y) ∧ W.cell? ⟨w.heap.size, 0, none⟩ = some (.int .i64 px) ∧ W.cell? ⟨w.heap.size, 1, none⟩ = some (.int .i64 py) ∧ W.cell? ⟨b1, o1 + j * 2, none⟩ = some (.int .i64 x2) ∧ W.cell? ⟨b1, o1 + j * 2 + 1, none⟩ = some (.int .i64 y2) ∧ Hid (Below w2.heap.size w2 W)) (first | (exact ⟨c0, c1, e0, e1, c2, c3, Lib.hid hB.out.drew⟩) | assumption | (exact next6 hb (by assumption))) ((go_at_call 59; refine (sq_spec _ _ _ _ (by assumption) (by assumption) (by assumption) (by assumption) _).mono ?_; rintro e w1 ⟨rfl, hb⟩; dsimp only))
          have hk6 : w1.cell? ⟨b1, o1 + k * 2, none⟩ = some (.int .i64 x) ∧ w1.cell? ⟨b1, o1 + k * 2 + 1, none⟩ = some (.int .i64 y) ∧ w1.cell? ⟨w.heap.size, 0, none⟩ = some (.int .i64 px) ∧ w1.cell? ⟨w.heap.size, 1, none⟩ = some (.int .i64 py) ∧ w1.cell? ⟨b1, o1 + j * 2, none⟩ = some (.int .i64 x2) ∧ w1.cell? ⟨b1, o1 + j * 2 + 1, none⟩ = some (.int .i64 y2) ∧ Hid (Below w2.heap.size w2 w1) := by assumption
          obtain ⟨_, _, f0, f1, _, _, HBf⟩ := hk6
          clear c0 c1 c2 c3
          go_wp2_with fail
          go_roundw
          case rel => exact ⟨k + 1, j, by omega, hj, by go_num, rfl, HN, f0, f1, HBf⟩
          case measure => simp [intOf]; omega
      · obtain rfl : k = l.length := by omega
        have HR := Lib.hid (near_yes HK.out hN.out)
        have HF := Lib.hid (bthen HB2.out hB.out HB2.out.size)
        go_wp2_with fail
        go_ret2
        exact ⟨HR.out, HF.out⟩
  · have H1 := Lib.hid h1
    have H2 := Lib.hid h2
    have HR := Lib.hid (near_no (l := l) (px := px) (py := py) (by unfold nearOk; rw [decide_eq_false h3, Bool.and_false]))
    have hz : l.length ≤ 0 := by omega
    have h0 : ((l.length : Int) == 0) = true := by simpa using hz
    clear h1 h2 h3 hz
    go_enter Try.func18, Try.ntmps18
    go_wp2_with fail
    refine (l2Spots_v _ _ _ _ l _ (spots_alloc HS.out _) hm H1.out).mono ?_
    rintro e w1 ⟨rfl, hb⟩
    have HB := Lib.hid (box1 hb)
    clear hb
    have c0 := HB.out.2.at_ 0 _ rfl
    have c1 := HB.out.2.at_ 1 _ rfl
    go_wp2_with fail
    refine (l2Spot_v px py _ H2.out _).mono ?_
    rintro e w2 ⟨rfl, hb⟩
    have HB2 := Lib.hid (bthen HB.out.1 hb HB.out.1.size)
    clear hb c0 c1
    go_wp2_with fail
    go_ret2
    exact ⟨HR.out, HB2.out⟩
end Go.Proofs.Ytjnimedbjmihaaa
