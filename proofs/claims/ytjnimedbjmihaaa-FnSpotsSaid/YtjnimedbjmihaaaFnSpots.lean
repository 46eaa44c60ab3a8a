/-
  Proved here: for every slice of bytes the law laws.FnSpots returns true (on the spots and boxes drawn from it: NearestSpot, AreSpots, IsSpot, BoxOf, SpotsIn and SquareBetween answer as their models; where there is a nearest spot no spot is nearer, the square of the distance is the same both ways, and the box of the spots is a box that holds them all), and the argument reads afterwards as before.
  Conditions: none beyond the row's own.
-/
import Derived.Test.YtjnimedbjmihaaaOpen
import Derived.Test.YtjnimedbjmihaaaFp
import Derived.Deep.RegionHeld3
namespace Go.Proofs.Ytjnimedbjmihaaa.fnSpots
open Go.Joins Go.ChangeShapes Go.WideShapes Go.ChangeAt Go.RowKit Go.Deep
set_option linter.unusedVariables false

theorem big_yes (A : Option Addr) (n c : Nat) (w : World) (h : (65536 : Int) < n) : Calls Try.prog 15 #[.slice A n c] w fun e w' => e = .returned (.bool true) ∧ w = w' := by
  go_enter Try.func15, Try.ntmps15
  go_wp2
  go_ret
  exact ⟨by simp, rfl⟩
theorem big_no (A : Option Addr) (n c : Nat) (w : World) (h : ¬ (65536 : Int) < n) : Calls Try.prog 15 #[.slice A n c] w fun e w' => e = .returned (.bool false) ∧ w = w' := by
  go_enter Try.func15, Try.ntmps15
  go_wp2
  go_ret
  exact ⟨by simp, rfl⟩
/-- A slice of bytes that came in, as the reader needs it. -/
theorem open_code {H : Type} {enc : TypeId × Value → H} {w : World} {A : Option Addr} {n c : Nat} {d : DataW H} {p : List MemPlace} (h : DataW.Trod enc Try.prog w 0 (fun _ => true) true 22 (.slice A n c) d p) :
    n ≤ maxLen ∧ CodeRow w.heap.size A n w := by
  obtain ⟨fuel, hf⟩ := h
  rcases open_ints Try.underlying22 Try.underlying5 (by kernel_rfl) hf with ⟨hcs, _⟩ | ⟨x, l, c', zs, hcs, _, hl, hm, hz, _, hcell, hwz⟩
  · simp [Value.cells] at hcs
    obtain ⟨rfl, rfl, rfl⟩ := hcs
    exact ⟨by unfold maxLen; omega, fun j hj => absurd hj (by omega)⟩
  · simp [Value.cells] at hcs
    obtain ⟨rfl, rfl, rfl⟩ := hcs
    refine ⟨by omega, fun j hj => ?_⟩
    have hz' : zs.length = c := by simpa using hz
    have h1 := hcell j (by omega)
    have hlt := World.block_lt_of_cell? w _ h1
    have hblk : (x.add j).block = x.block := by unfold Addr.add; split <;> rfl
    have hmem : zs.getD j 0 ∈ zs := by
      rw [List.getD_eq_getElem?_getD, List.getElem?_eq_getElem (by omega)]
      exact List.getElem_mem _
    have h3 := bounds_u8 (hwz _ hmem)
    refine ⟨x, (zs.getD j 0).toNat, rfl, by rw [← hblk]; exact hlt, by omega, ?_⟩
    rw [h1]
    have e : (((zs.getD j 0).toNat : Nat) : Int) = zs.getD j 0 := by omega
    rw [e]

/-! ### Contracts with their values named -/
theorem near_impl_at (A : Option Addr) (c : Nat) (l : List (Int × Int)) (px py I : Int) (k : Bool) (w : World) (hs : Spots w w.heap.size A l.length l) (hm : l.length ≤ maxLen) (h1 : nearI l px py = I) (h2 : nearOk l px py = k) :
    Calls Try.prog 17 #[.slice A l.length c, .agg #[.int .i64 px, .int .i64 py]] w fun e w' => e = .returned (.tuple #[.int .i64 I, .bool k]) ∧ Below w.heap.size w w' := by
  subst h1 h2; exact near_impl A c l px py w hs hm
theorem near_spec_at (A : Option Addr) (c : Nat) (l : List (Int × Int)) (px py I : Int) (k : Bool) (w : World) (hs : Spots w w.heap.size A l.length l) (hm : l.length ≤ maxLen) (h1 : nearI l px py = I) (h2 : nearOk l px py = k) :
    Calls Try.prog 18 #[.slice A l.length c, .agg #[.int .i64 px, .int .i64 py]] w fun e w' => e = .returned (.tuple #[.int .i64 I, .bool k]) ∧ Below w.heap.size w w' := by
  subst h1 h2; exact near_spec A c l px py w hs hm
theorem bo_impl_at (A : Option Addr) (c : Nat) (l : List (Int × Int)) (V : Value) (w : World) (hs : Spots w w.heap.size A l.length l) (hm : l.length ≤ maxLen) (hc : l.length ≤ c) (h : boV l = V) :
    Calls Try.prog 24 #[.slice A l.length c] w fun e w' => e = .returned V ∧ Below w.heap.size w w' := by
  subst h; exact bo_impl A c l w hs hm hc
theorem bo_spec_at (A : Option Addr) (c : Nat) (l : List (Int × Int)) (V : Value) (w : World) (hs : Spots w w.heap.size A l.length l) (hm : l.length ≤ maxLen) (h : boV l = V) :
    Calls Try.prog 28 #[.slice A l.length c] w fun e w' => e = .returned V ∧ Below w.heap.size w w' := by
  subst h; exact bo_spec A c l w hs hm
def InAt (k : Bool) (N : Nat) (f : Nat → Int) (w : World) (e : Ending) (w' : World) : Prop :=
  ∃ A cap, e = .returned (.tuple #[.slice A N cap, .bool k]) ∧ IFun w' w.heap.size w'.heap.size A N f ∧ Below w.heap.size w w'
theorem in_impl_at (A : Option Addr) (cap : Nat) (l : List (Int × Int)) (a b c d : Int) (k : Bool) (N : Nat) (f : Nat → Int) (w : World) (hs : Spots w w.heap.size A l.length l) (hm : l.length ≤ maxLen) (h1 : inOk a b c d l = k) (h2 : (inX a b c d l).length = N) (h3 : (fun j => (inX a b c d l).getD j 0) = f) :
    Calls Try.prog 25 #[.slice A l.length cap, .agg #[.int .i64 a, .int .i64 b, .int .i64 c, .int .i64 d]] w (InAt k N f w) := by
  subst h1 h2 h3; exact in_impl A cap l a b c d w hs hm
theorem in_spec_at (A : Option Addr) (cap : Nat) (l : List (Int × Int)) (a b c d : Int) (k : Bool) (N : Nat) (f : Nat → Int) (w : World) (hs : Spots w w.heap.size A l.length l) (hm : l.length ≤ maxLen) (h1 : inOk a b c d l = k) (h2 : (inX a b c d l).length = N) (h3 : (fun j => (inX a b c d l).getD j 0) = f) :
    Calls Try.prog 30 #[.slice A l.length cap, .agg #[.int .i64 a, .int .i64 b, .int .i64 c, .int .i64 d]] w (InAt k N f w) := by
  subst h1 h2 h3; exact in_spec A cap l a b c d w hs hm
theorem sqb_impl_at (ax ay bx by_ Q : Int) (k : Bool) (w : World) (h1 : sqN ax ay bx by_ = Q) (h2 : sqK ax ay bx by_ = k) :
    Calls Try.prog 23 #[.agg #[.int .i64 ax, .int .i64 ay], .agg #[.int .i64 bx, .int .i64 by_]] w fun e w' => e = .returned (.tuple #[.int .i64 Q, .bool k]) ∧ Below w.heap.size w w' := by
  subst h1 h2; exact sqb_impl ax ay bx by_ w
theorem sqb_spec_at (ax ay bx by_ Q : Int) (k : Bool) (w : World) (h1 : sqN ax ay bx by_ = Q) (h2 : sqK ax ay bx by_ = k) :
    Calls Try.prog 33 #[.agg #[.int .i64 ax, .int .i64 ay], .agg #[.int .i64 bx, .int .i64 by_]] w fun e w' => e = .returned (.tuple #[.int .i64 Q, .bool k]) ∧ Below w.heap.size w w' := by
  subst h1 h2; exact sqb_spec ax ay bx by_ w
theorem sqN_of {ax ay bx by_ : Int} (h : sqK ax ay bx by_ = true) : sqN ax ay bx by_ = sqI ax ay bx by_ := by unfold sqN; rw [if_pos h]
theorem inX_le (a b c d : Int) (l : List (Int × Int)) : (inX a b c d l).length ≤ l.length := by
  unfold inX
  split
  · exact inK_len _ _ _ _ _ _
  · simp
/-! ### The walk: the Go text returns true, and nothing that was there has turned. -/
set_option maxRecDepth 20000 in
set_option maxHeartbeats 3200000 in
theorem walk (A : Option Addr) (n c : Nat) (w : World) (hm : n ≤ maxLen) (hr : CodeRow w.heap.size A n w) :
    Calls Try.prog 3 #[.slice A n c] w fun e w' => e = .returned (.bool true) ∧ Below w.heap.size w w' := by
  by_cases hbig : (65536 : Int) < n
  · go_enter Try.func3, Try.ntmps3
    go_wp2_with fail
    refine (big_yes A n c w hbig).mono ?_
    rintro e w' ⟨rfl, rfl⟩
    go_wp2
    go_ret
    exact ⟨rfl, Below.refl _ _⟩
  have HR := Lib.hid hr
  have HBig := Lib.hid (big_no A n c w hbig)
  clear hr hbig
  go_enter Try.func3, Try.ntmps3
  go_wp2_with fail
  refine HBig.out.mono ?_
  rintro e w' ⟨rfl, rfl⟩
  go_wp2_with fail
  refine (draw_near _ _ _ _ HR.out).mono ?_
  rintro e w1 ⟨R, cap, l, px, py, h13, rfl, hs, hcap, hb⟩
  have HB1 := Lib.hid hb
  have HS1 := Lib.hid hs
  have HM : Hid (l.length ≤ maxLen) := by unfold Hid maxLen; omega
  clear hb hs
  rcases hk : nearOk l px py with _ | _
  · obtain ⟨I, hI⟩ : ∃ I, nearI l px py = I := ⟨_, rfl⟩
    have HN := Lib.hid (And.intro hI hk)
    clear hI hk
    go_wp2_with fail
    refine (near_impl_at _ _ _ _ _ _ false _ (spots_alloc HS1.out _) HM.out HN.out.1 HN.out.2).mono ?_
    rintro e w2 ⟨rfl, hb⟩
    have HX2 := Lib.hid (And.intro (bthen HB1.out (box1 hb).1 HB1.out.size) (And.intro (box1 hb).2 (spots_more (spots_alloc HS1.out _) hb)))
    clear hb
    have c0 := HX2.out.2.1.at_ 0 _ rfl
    have c1 := HX2.out.2.1.at_ 1 _ rfl
    go_wp2_with fail
    refine (near_spec_at _ _ _ _ _ _ false _ HX2.out.2.2 HM.out HN.out.1 HN.out.2).mono ?_
    rintro e w3 ⟨rfl, hb⟩
    have HX3 := Lib.hid (And.intro (bthen HX2.out.1 hb HX2.out.1.size) (And.intro (HX2.out.2.1.next hb) (spots_more HX2.out.2.2 hb)))
    clear hb c0 c1
    go_wp2_with fail
    have c0 := HX3.out.2.1.at_ 0 _ rfl
    have c1 := HX3.out.2.1.at_ 1 _ rfl
    have HK : Hid ((∀ W : World, Below w3.heap.size w3 W → W.cell? ⟨w1.heap.size, 0, none⟩ = some (.int .i64 px) ∧ W.cell? ⟨w1.heap.size, 1, none⟩ = some (.int .i64 py) ∧ Hid (Below w3.heap.size w3 W)) ∧ (∀ W : World, (W.cell? ⟨w1.heap.size, 0, none⟩ = some (.int .i64 px) ∧ W.cell? ⟨w1.heap.size, 1, none⟩ = some (.int .i64 py) ∧ Hid (Below w3.heap.size w3 W)) → Below w3.heap.size w3 W)) := Lib.hid ⟨fun W h => ⟨cell_next h (by assumption), cell_next h (by assumption), Lib.hid h⟩, fun W h => h.2.2.out⟩
    go_region_held3 (fun W => W.cell? ⟨w1.heap.size, 0, none⟩ = some (.int .i64 px) ∧ W.cell? ⟨w1.heap.size, 1, none⟩ = some (.int .i64 py) ∧ Hid (Below w3.heap.size w3 W)) (first | with_reducible assumption | with_reducible exact HK.out.1 _ (Below.refl _ _).drew | with_reducible exact HK.out.1 _ (bthen (HK.out.2 _ (by assumption)) hb (HK.out.2 _ (by assumption)).size) | with_reducible exact HK.out.1 _ ((HK.out.2 _ (by assumption)).alloc (HK.out.2 _ (by assumption)).size _) | with_reducible exact HK.out.1 _ (HBw.out.alloc HBw.out.size _) | with_reducible exact HK.out.1 _ ((Below.refl _ _).alloc (Nat.le_refl _) _) | with_reducible exact HK.out.1 _ ((HK.out.2 _ (by assumption)).alloc (HK.out.2 _ (by assumption)).size _).drew | with_reducible exact HK.out.1 _ (HBw.out.alloc HBw.out.size _).drew | with_reducible exact HK.out.1 _ ((Below.refl _ _).alloc (Nat.le_refl _) _).drew) ((first | (go_at_call 19; refine (are_impl _ _ _ l _ (spots_more HX3.out.2.2 (HK.out.2 _ (by assumption))) HM.out).mono ?_; rintro e w4 ⟨rfl, hb⟩; have HBw := Lib.hid (bthen (HK.out.2 _ (by assumption)) hb (HK.out.2 _ (by assumption)).size); dsimp only) | (go_at_call 20; refine (are_spec _ _ _ l _ (spots_more HX3.out.2.2 (HK.out.2 _ (by assumption))) HM.out).mono ?_; rintro e w4 ⟨rfl, hb⟩; have HBw := Lib.hid (bthen (HK.out.2 _ (by assumption)) hb (HK.out.2 _ (by assumption)).size); dsimp only) | (go_at_call 21; refine (isSpot_impl _ _ _).mono ?_; rintro e w4 ⟨rfl, hb⟩; have HBw := Lib.hid (bthen (HK.out.2 _ (by assumption)) hb (HK.out.2 _ (by assumption)).size); dsimp only) | (go_at_call 22; refine (isSpot_spec _ _ _).mono ?_; rintro e w4 ⟨rfl, hb⟩; have HBw := Lib.hid (bthen (HK.out.2 _ (by assumption)) hb (HK.out.2 _ (by assumption)).size); dsimp only)))
    have HY := Lib.hid (HK.out.2 w4 (by assumption))
    have HT19 := Lib.hid (bthen HX3.out.1 HY.out HX3.out.1.size)
    clear HK c0 c1
    go_wp2_with fail
    refine (draw_bo _ _ _ _ (HR.out.below HT19.out HT19.out.size)).mono ?_
    rintro e w20 ⟨R2, cap2, l2, h13b, rfl, hs, hcap2, hb⟩
    have HS20 := Lib.hid hs
    have HT20 := Lib.hid (bthen HT19.out hb HT19.out.size)
    have HM2 : Hid (l2.length ≤ maxLen) := by unfold Hid maxLen; omega
    obtain ⟨P2, Q2, S2, T2, K2, hV⟩ : ∃ P Q S T K, boV l2 = .tuple #[.agg #[.int .i64 P, .int .i64 Q, .int .i64 S, .int .i64 T], .bool K] := ⟨_, _, _, _, _, rfl⟩
    have HV := Lib.hid hV
    clear hs hb hV h13b
    go_wp2_with fail
    refine (bo_impl_at _ _ _ _ _ HS20.out HM2.out hcap2 HV.out).mono ?_
    rintro e w21 ⟨rfl, hb⟩
    have HS21 := Lib.hid (spots_more HS20.out hb)
    have HT21 := Lib.hid (bthen HT20.out hb HT20.out.size)
    clear hb
    go_wp2_with fail
    refine (bo_spec_at _ _ _ _ _ (spots_alloc HS21.out _) HM2.out HV.out).mono ?_
    rintro e w22 ⟨rfl, hb⟩
    have HX22 := Lib.hid (And.intro (bthen HT21.out (box1 hb).1 HT21.out.size) (box1 hb).2)
    clear hb
    have HA := HX22.out.2.alloc (.cells #[.int .i64 P2, .int .i64 Q2, .int .i64 S2, .int .i64 T2] 35)
    have c0 := HA.at_ 0 _ rfl
    have c1 := HA.at_ 1 _ rfl
    have c2 := HA.at_ 2 _ rfl
    have c3 := HA.at_ 3 _ rfl
    clear HA
    go_wp2_with fail
    clear c0 c1 c2 c3
    refine (draw_in _ _ _ _ (HR.out.below (HX22.out.1.alloc HX22.out.1.size _) (HX22.out.1.alloc HX22.out.1.size _).size)).mono ?_
    rintro e w24 ⟨R3, cap3, l3, a, b, cc, d, h13c, rfl, hs, hcap3, hb⟩
    have HS24 := Lib.hid hs
    have HT24 := Lib.hid (bthen (HX22.out.1.alloc HX22.out.1.size _) hb (HX22.out.1.alloc HX22.out.1.size _).size)
    have HM3 : Hid (l3.length ≤ maxLen) := by unfold Hid maxLen; omega
    obtain ⟨k3, hk3⟩ : ∃ k, inOk a b cc d l3 = k := ⟨_, rfl⟩
    obtain ⟨N3, hN3⟩ : ∃ N, (inX a b cc d l3).length = N := ⟨_, rfl⟩
    obtain ⟨f3, hf3⟩ : ∃ f, (fun j => (inX a b cc d l3).getD j 0) = f := ⟨_, rfl⟩
    have hN4 : N3 ≤ 13 := by rw [← hN3]; exact Nat.le_trans (inX_le _ _ _ _ _) h13c
    have HI3 := Lib.hid (And.intro hk3 (And.intro hN3 hf3))
    clear hs hb hk3 hN3 hf3
    go_wp2_with fail
    refine (in_impl_at _ _ _ _ _ _ _ _ _ _ _ (spots_alloc HS24.out _) HM3.out HI3.out.1 HI3.out.2.1 HI3.out.2.2).mono ?_
    rintro e w25 ⟨A4, cap4, rfl, hf, hb⟩
    have HX25 := Lib.hid (And.intro (bthen HT24.out (box1 hb).1 HT24.out.size) (And.intro (box1 hb).2 (And.intro (spots_more (spots_alloc HS24.out _) hb) hf)))
    clear hf hb
    have c0 := HX25.out.2.1.at_ 0 _ rfl
    have c1 := HX25.out.2.1.at_ 1 _ rfl
    have c2 := HX25.out.2.1.at_ 2 _ rfl
    have c3 := HX25.out.2.1.at_ 3 _ rfl
    go_wp2_with fail
    refine (in_spec_at _ _ _ _ _ _ _ _ _ _ _ HX25.out.2.2.1 HM3.out HI3.out.1 HI3.out.2.1 HI3.out.2.2).mono ?_
    rintro e w26 ⟨A5, cap5, rfl, hf, hb⟩
    have HX26 := Lib.hid (And.intro (bthen HX25.out.1 hb HX25.out.1.size) (And.intro (HX25.out.2.2.2.on hb (Nat.le_refl _)) hf))
    clear hf hb c0 c1 c2 c3
    go_wp2_with fail
    refine (vI_same _ _ _ _ _ _ _ _ _ _ _ HX26.out.2.1 HX26.out.2.2 (by omega)).mono ?_
    rintro e w27 ⟨rfl, kd, rfl⟩
    have HT27 := Lib.hid (bdrewN HX26.out.1 kd)
    go_wp2_with fail
    refine (draw_square _ _ _ _ (HR.out.below HT27.out HT27.out.size)).mono ?_
    rintro e w30 ⟨x0, y0, x1, y1, rfl, hb⟩
    have HT30 := Lib.hid (bthen HT27.out hb HT27.out.size)
    obtain ⟨q5, hq5⟩ : ∃ q, sqN x0 y0 x1 y1 = q := ⟨_, rfl⟩
    obtain ⟨k5, hk5⟩ : ∃ k, sqK x0 y0 x1 y1 = k := ⟨_, rfl⟩
    have HQ5 := Lib.hid (And.intro hq5 hk5)
    clear hb hq5 hk5
    go_wp2_with fail
    refine (sqb_impl_at _ _ _ _ _ _ _ HQ5.out.1 HQ5.out.2).mono ?_
    rintro e w31 ⟨rfl, hb⟩
    have HX31 := Lib.hid (And.intro (bthen HT30.out (box2 hb).1 HT30.out.size) (box2 hb).2)
    clear hb
    have c0 := HX31.out.2.1.at_ 0 _ rfl
    have c1 := HX31.out.2.1.at_ 1 _ rfl
    have c2 := HX31.out.2.2.at_ 0 _ rfl
    have c3 := HX31.out.2.2.at_ 1 _ rfl
    go_wp2_with fail
    refine (sqb_spec_at _ _ _ _ _ _ _ HQ5.out.1 HQ5.out.2).mono ?_
    rintro e w32 ⟨rfl, hb⟩
    have HT32 := Lib.hid (bthen HX31.out.1 hb HX31.out.1.size)
    clear hb c0 c1 c2 c3
    go_wp2_with fail
    go_ret
    exact ⟨rfl, HT32.out⟩
  · obtain ⟨I, P, Q, S, T, hI, hNI, hV, hbx, hio, hlen, hleast, hsq⟩ := spots_facts hk
    have HN := Lib.hid (And.intro hNI hk)
    have HF := Lib.hid (And.intro hV (And.intro hbx (And.intro hio (And.intro hlen (And.intro hleast hsq)))))
    clear hk hNI hV hbx hio hlen hleast hsq
    go_wp2_with fail
    refine (near_impl_at _ _ _ _ _ _ true _ (spots_alloc HS1.out _) HM.out HN.out.1 HN.out.2).mono ?_
    rintro e w2 ⟨rfl, hb⟩
    have HX2 := Lib.hid (And.intro (bthen HB1.out (box1 hb).1 HB1.out.size) (And.intro (box1 hb).2 (spots_more (spots_alloc HS1.out _) hb)))
    clear hb
    have c0 := HX2.out.2.1.at_ 0 _ rfl
    have c1 := HX2.out.2.1.at_ 1 _ rfl
    go_wp2_with fail
    refine (near_spec_at _ _ _ _ _ _ true _ HX2.out.2.2 HM.out HN.out.1 HN.out.2).mono ?_
    rintro e w3 ⟨rfl, hb⟩
    have HX3 := Lib.hid (And.intro (bthen HX2.out.1 hb HX2.out.1.size) (And.intro (HX2.out.2.1.next hb) (spots_more HX2.out.2.2 hb)))
    clear hb c0 c1
    go_wp2_with fail
    have c0 := HX3.out.2.1.at_ 0 _ rfl
    have c1 := HX3.out.2.1.at_ 1 _ rfl
    have HK : Hid ((∀ W : World, Below w3.heap.size w3 W → W.cell? ⟨w1.heap.size, 0, none⟩ = some (.int .i64 px) ∧ W.cell? ⟨w1.heap.size, 1, none⟩ = some (.int .i64 py) ∧ Hid (Below w3.heap.size w3 W)) ∧ (∀ W : World, (W.cell? ⟨w1.heap.size, 0, none⟩ = some (.int .i64 px) ∧ W.cell? ⟨w1.heap.size, 1, none⟩ = some (.int .i64 py) ∧ Hid (Below w3.heap.size w3 W)) → Below w3.heap.size w3 W)) := Lib.hid ⟨fun W h => ⟨cell_next h (by assumption), cell_next h (by assumption), Lib.hid h⟩, fun W h => h.2.2.out⟩
    go_region_held3 (fun W => W.cell? ⟨w1.heap.size, 0, none⟩ = some (.int .i64 px) ∧ W.cell? ⟨w1.heap.size, 1, none⟩ = some (.int .i64 py) ∧ Hid (Below w3.heap.size w3 W)) (first | with_reducible assumption | with_reducible exact HK.out.1 _ (Below.refl _ _).drew | with_reducible exact HK.out.1 _ (bthen (HK.out.2 _ (by assumption)) hb (HK.out.2 _ (by assumption)).size) | with_reducible exact HK.out.1 _ ((HK.out.2 _ (by assumption)).alloc (HK.out.2 _ (by assumption)).size _) | with_reducible exact HK.out.1 _ (HBw.out.alloc HBw.out.size _) | with_reducible exact HK.out.1 _ ((Below.refl _ _).alloc (Nat.le_refl _) _) | with_reducible exact HK.out.1 _ ((HK.out.2 _ (by assumption)).alloc (HK.out.2 _ (by assumption)).size _).drew | with_reducible exact HK.out.1 _ (HBw.out.alloc HBw.out.size _).drew | with_reducible exact HK.out.1 _ ((Below.refl _ _).alloc (Nat.le_refl _) _).drew) ((first | (go_at_call 19; refine (are_impl _ _ _ l _ (spots_more HX3.out.2.2 (HK.out.2 _ (by assumption))) HM.out).mono ?_; rintro e w4 ⟨rfl, hb⟩; have HBw := Lib.hid (bthen (HK.out.2 _ (by assumption)) hb (HK.out.2 _ (by assumption)).size); dsimp only) | (go_at_call 20; refine (are_spec _ _ _ l _ (spots_more HX3.out.2.2 (HK.out.2 _ (by assumption))) HM.out).mono ?_; rintro e w4 ⟨rfl, hb⟩; have HBw := Lib.hid (bthen (HK.out.2 _ (by assumption)) hb (HK.out.2 _ (by assumption)).size); dsimp only) | (go_at_call 21; refine (isSpot_impl _ _ _).mono ?_; rintro e w4 ⟨rfl, hb⟩; have HBw := Lib.hid (bthen (HK.out.2 _ (by assumption)) hb (HK.out.2 _ (by assumption)).size); dsimp only) | (go_at_call 22; refine (isSpot_spec _ _ _).mono ?_; rintro e w4 ⟨rfl, hb⟩; have HBw := Lib.hid (bthen (HK.out.2 _ (by assumption)) hb (HK.out.2 _ (by assumption)).size); dsimp only)))
    have HY := Lib.hid (HK.out.2 w4 (by assumption))
    have HX4 := Lib.hid (And.intro (bthen HX3.out.1 HY.out HX3.out.1.size) (And.intro (HX3.out.2.1.next HY.out) (spots_more HX3.out.2.2 HY.out)))
    clear HK c0 c1 HY
    go_wp2_with fail
    obtain ⟨b0, o0, x0, y0, rfl, hb0, hl0, d0, d1⟩ := HX4.out.2.2.2 I hI
    have HL0 := Lib.hid hl0
    obtain ⟨L, hL⟩ : ∃ L, sqI x0 y0 px py = L := ⟨_, rfl⟩
    have hk0 := (HF.out.2.2.2.2.2 _ _ _ hl0).1
    have HQ0 : Hid (sqN x0 y0 px py = L ∧ sqK x0 y0 px py = true ∧ sqI x0 y0 px py = L) := ⟨by rw [sqN_of hk0, hL], hk0, hL⟩
    have c0 := HX4.out.2.1.at_ 0 _ rfl
    have c1 := HX4.out.2.1.at_ 1 _ rfl
    clear hl0 hk0 hL
    have HK : Hid ((∀ W : World, Below w4.heap.size w4 W → W.cell? ⟨b0, o0 + I * 2, none⟩ = some (.int .i64 x0) ∧ W.cell? ⟨b0, o0 + I * 2 + 1, none⟩ = some (.int .i64 y0) ∧ W.cell? ⟨w1.heap.size, 0, none⟩ = some (.int .i64 px) ∧ W.cell? ⟨w1.heap.size, 1, none⟩ = some (.int .i64 py) ∧ Hid (Below w4.heap.size w4 W)) ∧ (∀ W : World, (W.cell? ⟨b0, o0 + I * 2, none⟩ = some (.int .i64 x0) ∧ W.cell? ⟨b0, o0 + I * 2 + 1, none⟩ = some (.int .i64 y0) ∧ W.cell? ⟨w1.heap.size, 0, none⟩ = some (.int .i64 px) ∧ W.cell? ⟨w1.heap.size, 1, none⟩ = some (.int .i64 py) ∧ Hid (Below w4.heap.size w4 W)) → Below w4.heap.size w4 W)) := Lib.hid ⟨fun W h => ⟨cell_next h (by assumption), cell_next h (by assumption), cell_next h (by assumption), cell_next h (by assumption), Lib.hid h⟩, fun W h => h.2.2.2.2.out⟩
    go_region_held3 (fun W => W.cell? ⟨b0, o0 + I * 2, none⟩ = some (.int .i64 x0) ∧ W.cell? ⟨b0, o0 + I * 2 + 1, none⟩ = some (.int .i64 y0) ∧ W.cell? ⟨w1.heap.size, 0, none⟩ = some (.int .i64 px) ∧ W.cell? ⟨w1.heap.size, 1, none⟩ = some (.int .i64 py) ∧ Hid (Below w4.heap.size w4 W)) (first | with_reducible assumption | with_reducible exact HK.out.1 _ (Below.refl _ _).drew | with_reducible exact HK.out.1 _ (bthen (HK.out.2 _ (by assumption)) hb (HK.out.2 _ (by assumption)).size) | with_reducible exact HK.out.1 _ ((HK.out.2 _ (by assumption)).alloc (HK.out.2 _ (by assumption)).size _) | with_reducible exact HK.out.1 _ (HBw.out.alloc HBw.out.size _) | with_reducible exact HK.out.1 _ ((Below.refl _ _).alloc (Nat.le_refl _) _) | with_reducible exact HK.out.1 _ ((HK.out.2 _ (by assumption)).alloc (HK.out.2 _ (by assumption)).size _).drew | with_reducible exact HK.out.1 _ (HBw.out.alloc HBw.out.size _).drew | with_reducible exact HK.out.1 _ ((Below.refl _ _).alloc (Nat.le_refl _) _).drew) ((first | (go_at_call 23; refine (sqb_impl_at _ _ _ _ _ _ _ HQ0.out.1 HQ0.out.2.1).mono ?_; rintro e w5 ⟨rfl, hb⟩; have HBw := Lib.hid (bthen (HK.out.2 _ (by assumption)) hb (HK.out.2 _ (by assumption)).size); dsimp only)))
    have HY := Lib.hid (HK.out.2 w5 (by assumption))
    have HX5 := Lib.hid (And.intro (bthen HX4.out.1 HY.out HX4.out.1.size) (And.intro (HX4.out.2.1.next HY.out) (spots_more HX4.out.2.2 HY.out)))
    clear HK c0 c1 d0 d1 HY hb0
    go_wp2_with fail
    refine (bo_impl_at _ _ _ _ _ HX5.out.2.2 HM.out hcap HF.out.1).mono ?_
    rintro e w6 ⟨rfl, hb⟩
    have HX6 := Lib.hid (And.intro (bthen HX5.out.1 hb HX5.out.1.size) (And.intro (HX5.out.2.1.next hb) (spots_more HX5.out.2.2 hb)))
    clear hb
    go_wp2_with fail
    refine (in_impl_at _ _ _ _ _ _ _ _ _ _ _ (spots_alloc HX6.out.2.2 _) HM.out HF.out.2.2.1 HF.out.2.2.2.1 rfl).mono ?_
    rintro e w7 ⟨A7, cap7, rfl, hf, hb⟩
    have HX7 := Lib.hid (And.intro (bthen HX6.out.1 (box1 hb).1 HX6.out.1.size) (And.intro (HX6.out.2.1.next (box1 hb).1) (And.intro (spots_more HX6.out.2.2 (box1 hb).1) (box1 hb).2)))
    clear hb hf
    have c0 := HX7.out.2.2.2.at_ 0 _ rfl
    have c1 := HX7.out.2.2.2.at_ 1 _ rfl
    have c2 := HX7.out.2.2.2.at_ 2 _ rfl
    have c3 := HX7.out.2.2.2.at_ 3 _ rfl
    go_wp2_with fail
    refine (isBox_impl_v _ _ _ _ _ HF.out.2.1 _).mono ?_
    rintro e w8 ⟨rfl, hb⟩
    have HX8 := Lib.hid (And.intro (bthen HX7.out.1 hb HX7.out.1.size) (And.intro (HX7.out.2.1.next hb) (spots_more HX7.out.2.2.1 hb)))
    clear hb c0 c1 c2 c3
    have HCM := Lib.hid (sqI_comm)
    go_wp2_with fail
    go_loopw [15] (fun i wr => ∃ k : Nat, k ≤ l.length ∧ i = .int .i64 k ∧ Hid (Below w8.heap.size w8 wr)) (fun i _ => l.length - (intOf i).toNat)
    case atStart => exact ⟨0, Nat.zero_le _, rfl, Lib.hid (Below.refl _ _)⟩
    case round =>
      obtain ⟨k, hk, rfl, hB⟩ := hrel
      obtain ⟨W9, rfl⟩ : ∃ W9 : World, W9 = wr := ⟨_, rfl⟩
      have HX9 := Lib.hid (And.intro (bthen HX8.out.1 hB.out HX8.out.1.size) (And.intro (HX8.out.2.1.next hB.out) (spots_more HX8.out.2.2 hB.out)))
      by_cases hlt : k < l.length
      · obtain ⟨b1, o1, x, y, hAe, hb1, hl1, d0, d1⟩ := HX9.out.2.2.2 k hlt
        obtain ⟨rfl, rfl⟩ : b0 = b1 ∧ o0 = o1 := by injection hAe with h; injection h with h h'; exact ⟨h, h'⟩
        have hs2 := HF.out.2.2.2.2.2 _ _ _ hl1
        have hle := HF.out.2.2.2.2.1 _ _ _ _ _ hl1 HL0.out
        obtain ⟨V, hV⟩ : ∃ V, sqI x y px py = V := ⟨_, rfl⟩
        rw [HQ0.out.2.2, hV] at hle
        have HQ : Hid ((sqN x y px py = V ∧ sqK x y px py = true) ∧ (sqN px py x y = V ∧ sqK px py x y = true)) := ⟨⟨by rw [sqN_of hs2.1, hV], hs2.1⟩, ⟨by rw [sqN_of hs2.2, HCM.out, hV], hs2.2⟩⟩
        have c0 := HX9.out.2.1.at_ 0 _ rfl
        have c1 := HX9.out.2.1.at_ 1 _ rfl
        clear hs2 hV hl1 hAe hb1
        go_wp2_with fail
        have HK : Hid ((∀ W : World, Below W9.heap.size W9 W → W.cell? ⟨b0, o0 + k * 2, none⟩ = some (.int .i64 x) ∧ W.cell? ⟨b0, o0 + k * 2 + 1, none⟩ = some (.int .i64 y) ∧ W.cell? ⟨w1.heap.size, 0, none⟩ = some (.int .i64 px) ∧ W.cell? ⟨w1.heap.size, 1, none⟩ = some (.int .i64 py) ∧ Hid (Below W9.heap.size W9 W)) ∧ (∀ W : World, (W.cell? ⟨b0, o0 + k * 2, none⟩ = some (.int .i64 x) ∧ W.cell? ⟨b0, o0 + k * 2 + 1, none⟩ = some (.int .i64 y) ∧ W.cell? ⟨w1.heap.size, 0, none⟩ = some (.int .i64 px) ∧ W.cell? ⟨w1.heap.size, 1, none⟩ = some (.int .i64 py) ∧ Hid (Below W9.heap.size W9 W)) → Below W9.heap.size W9 W)) := Lib.hid ⟨fun W h => ⟨cell_next h (by assumption), cell_next h (by assumption), cell_next h (by assumption), cell_next h (by assumption), Lib.hid h⟩, fun W h => h.2.2.2.2.out⟩
        go_region_held3 (fun W => W.cell? ⟨b0, o0 + k * 2, none⟩ = some (.int .i64 x) ∧ W.cell? ⟨b0, o0 + k * 2 + 1, none⟩ = some (.int .i64 y) ∧ W.cell? ⟨w1.heap.size, 0, none⟩ = some (.int .i64 px) ∧ W.cell? ⟨w1.heap.size, 1, none⟩ = some (.int .i64 py) ∧ Hid (Below W9.heap.size W9 W)) (first | with_reducible assumption | with_reducible exact HK.out.1 _ (Below.refl _ _).drew | with_reducible exact HK.out.1 _ (bthen (HK.out.2 _ (by assumption)) hb (HK.out.2 _ (by assumption)).size) | with_reducible exact HK.out.1 _ ((HK.out.2 _ (by assumption)).alloc (HK.out.2 _ (by assumption)).size _) | with_reducible exact HK.out.1 _ (HBw.out.alloc HBw.out.size _) | with_reducible exact HK.out.1 _ ((Below.refl _ _).alloc (Nat.le_refl _) _) | with_reducible exact HK.out.1 _ ((HK.out.2 _ (by assumption)).alloc (HK.out.2 _ (by assumption)).size _).drew | with_reducible exact HK.out.1 _ (HBw.out.alloc HBw.out.size _).drew | with_reducible exact HK.out.1 _ ((Below.refl _ _).alloc (Nat.le_refl _) _).drew) ((first | (go_at_call 23; refine (sqb_impl_at _ _ _ _ _ _ _ HQ.out.1.1 HQ.out.1.2).mono ?_; rintro e w10 ⟨rfl, hb⟩; have HBw := Lib.hid (bthen (HK.out.2 _ (by assumption)) hb (HK.out.2 _ (by assumption)).size); dsimp only)))
        have HY := Lib.hid (HK.out.2 w10 (by assumption))
        have e0 := cell_next HY.out d0
        have e1 := cell_next HY.out d1
        have e2 := cell_next HY.out c0
        have e3 := cell_next HY.out c1
        clear HK c0 c1 d0 d1
        go_wp2_with fail
        have HK : Hid ((∀ W : World, Below w10.heap.size w10 W → W.cell? ⟨b0, o0 + k * 2, none⟩ = some (.int .i64 x) ∧ W.cell? ⟨b0, o0 + k * 2 + 1, none⟩ = some (.int .i64 y) ∧ W.cell? ⟨w1.heap.size, 0, none⟩ = some (.int .i64 px) ∧ W.cell? ⟨w1.heap.size, 1, none⟩ = some (.int .i64 py) ∧ Hid (Below w10.heap.size w10 W)) ∧ (∀ W : World, (W.cell? ⟨b0, o0 + k * 2, none⟩ = some (.int .i64 x) ∧ W.cell? ⟨b0, o0 + k * 2 + 1, none⟩ = some (.int .i64 y) ∧ W.cell? ⟨w1.heap.size, 0, none⟩ = some (.int .i64 px) ∧ W.cell? ⟨w1.heap.size, 1, none⟩ = some (.int .i64 py) ∧ Hid (Below w10.heap.size w10 W)) → Below w10.heap.size w10 W)) := Lib.hid ⟨fun W h => ⟨cell_next h (by assumption), cell_next h (by assumption), cell_next h (by assumption), cell_next h (by assumption), Lib.hid h⟩, fun W h => h.2.2.2.2.out⟩
        go_region_held3 (fun W => W.cell? ⟨b0, o0 + k * 2, none⟩ = some (.int .i64 x) ∧ W.cell? ⟨b0, o0 + k * 2 + 1, none⟩ = some (.int .i64 y) ∧ W.cell? ⟨w1.heap.size, 0, none⟩ = some (.int .i64 px) ∧ W.cell? ⟨w1.heap.size, 1, none⟩ = some (.int .i64 py) ∧ Hid (Below w10.heap.size w10 W)) (first | with_reducible assumption | with_reducible exact HK.out.1 _ (Below.refl _ _).drew | with_reducible exact HK.out.1 _ (bthen (HK.out.2 _ (by assumption)) hb (HK.out.2 _ (by assumption)).size) | with_reducible exact HK.out.1 _ ((HK.out.2 _ (by assumption)).alloc (HK.out.2 _ (by assumption)).size _) | with_reducible exact HK.out.1 _ (HBw.out.alloc HBw.out.size _) | with_reducible exact HK.out.1 _ ((Below.refl _ _).alloc (Nat.le_refl _) _) | with_reducible exact HK.out.1 _ ((HK.out.2 _ (by assumption)).alloc (HK.out.2 _ (by assumption)).size _).drew | with_reducible exact HK.out.1 _ (HBw.out.alloc HBw.out.size _).drew | with_reducible exact HK.out.1 _ ((Below.refl _ _).alloc (Nat.le_refl _) _).drew) ((first | (go_at_call 23; refine (sqb_impl_at _ _ _ _ _ _ _ HQ.out.2.1 HQ.out.2.2).mono ?_; rintro e w11 ⟨rfl, hb⟩; have HBw := Lib.hid (bthen (HK.out.2 _ (by assumption)) hb (HK.out.2 _ (by assumption)).size); dsimp only)))
        have HB11 := Lib.hid (bthen (bthen hB.out HY.out hB.out.size) (HK.out.2 w11 (by assumption)) (bthen hB.out HY.out hB.out.size).size)
        clear HK e0 e1 e2 e3
        go_wp2_with fail
        go_roundw
        case rel => exact ⟨k + 1, by omega, by go_num, HB11⟩
        case measure => simp [intOf]; omega
      · have HT19 := Lib.hid HX9.out.1
        go_wp2_with fail
        refine (draw_bo _ _ _ _ (HR.out.below HT19.out HT19.out.size)).mono ?_
        rintro e w20 ⟨R2, cap2, l2, h13b, rfl, hs, hcap2, hb⟩
        have HS20 := Lib.hid hs
        have HT20 := Lib.hid (bthen HT19.out hb HT19.out.size)
        have HM2 : Hid (l2.length ≤ maxLen) := by unfold Hid maxLen; omega
        obtain ⟨P2, Q2, S2, T2, K2, hV⟩ : ∃ P Q S T K, boV l2 = .tuple #[.agg #[.int .i64 P, .int .i64 Q, .int .i64 S, .int .i64 T], .bool K] := ⟨_, _, _, _, _, rfl⟩
        have HV := Lib.hid hV
        clear hs hb hV h13b
        go_wp2_with fail
        refine (bo_impl_at _ _ _ _ _ HS20.out HM2.out hcap2 HV.out).mono ?_
        rintro e w21 ⟨rfl, hb⟩
        have HS21 := Lib.hid (spots_more HS20.out hb)
        have HT21 := Lib.hid (bthen HT20.out hb HT20.out.size)
        clear hb
        go_wp2_with fail
        refine (bo_spec_at _ _ _ _ _ (spots_alloc HS21.out _) HM2.out HV.out).mono ?_
        rintro e w22 ⟨rfl, hb⟩
        have HX22 := Lib.hid (And.intro (bthen HT21.out (box1 hb).1 HT21.out.size) (box1 hb).2)
        clear hb
        have HA := HX22.out.2.alloc (.cells #[.int .i64 P2, .int .i64 Q2, .int .i64 S2, .int .i64 T2] 35)
        have c0 := HA.at_ 0 _ rfl
        have c1 := HA.at_ 1 _ rfl
        have c2 := HA.at_ 2 _ rfl
        have c3 := HA.at_ 3 _ rfl
        clear HA
        go_wp2_with fail
        clear c0 c1 c2 c3
        refine (draw_in _ _ _ _ (HR.out.below (HX22.out.1.alloc HX22.out.1.size _) (HX22.out.1.alloc HX22.out.1.size _).size)).mono ?_
        rintro e w24 ⟨R3, cap3, l3, a, b, cc, d, h13c, rfl, hs, hcap3, hb⟩
        have HS24 := Lib.hid hs
        have HT24 := Lib.hid (bthen (HX22.out.1.alloc HX22.out.1.size _) hb (HX22.out.1.alloc HX22.out.1.size _).size)
        have HM3 : Hid (l3.length ≤ maxLen) := by unfold Hid maxLen; omega
        obtain ⟨k3, hk3⟩ : ∃ k, inOk a b cc d l3 = k := ⟨_, rfl⟩
        obtain ⟨N3, hN3⟩ : ∃ N, (inX a b cc d l3).length = N := ⟨_, rfl⟩
        obtain ⟨f3, hf3⟩ : ∃ f, (fun j => (inX a b cc d l3).getD j 0) = f := ⟨_, rfl⟩
        have hN4 : N3 ≤ 13 := by rw [← hN3]; exact Nat.le_trans (inX_le _ _ _ _ _) h13c
        have HI3 := Lib.hid (And.intro hk3 (And.intro hN3 hf3))
        clear hs hb hk3 hN3 hf3
        go_wp2_with fail
        refine (in_impl_at _ _ _ _ _ _ _ _ _ _ _ (spots_alloc HS24.out _) HM3.out HI3.out.1 HI3.out.2.1 HI3.out.2.2).mono ?_
        rintro e w25 ⟨A4, cap4, rfl, hf, hb⟩
        have HX25 := Lib.hid (And.intro (bthen HT24.out (box1 hb).1 HT24.out.size) (And.intro (box1 hb).2 (And.intro (spots_more (spots_alloc HS24.out _) hb) hf)))
        clear hf hb
        have c0 := HX25.out.2.1.at_ 0 _ rfl
        have c1 := HX25.out.2.1.at_ 1 _ rfl
        have c2 := HX25.out.2.1.at_ 2 _ rfl
        have c3 := HX25.out.2.1.at_ 3 _ rfl
        go_wp2_with fail
        refine (in_spec_at _ _ _ _ _ _ _ _ _ _ _ HX25.out.2.2.1 HM3.out HI3.out.1 HI3.out.2.1 HI3.out.2.2).mono ?_
        rintro e w26 ⟨A5, cap5, rfl, hf, hb⟩
        have HX26 := Lib.hid (And.intro (bthen HX25.out.1 hb HX25.out.1.size) (And.intro (HX25.out.2.2.2.on hb (Nat.le_refl _)) hf))
        clear hf hb c0 c1 c2 c3
        go_wp2_with fail
        refine (vI_same _ _ _ _ _ _ _ _ _ _ _ HX26.out.2.1 HX26.out.2.2 (by omega)).mono ?_
        rintro e w27 ⟨rfl, kd, rfl⟩
        have HT27 := Lib.hid (bdrewN HX26.out.1 kd)
        go_wp2_with fail
        refine (draw_square _ _ _ _ (HR.out.below HT27.out HT27.out.size)).mono ?_
        rintro e w30 ⟨x0, y0, x1, y1, rfl, hb⟩
        have HT30 := Lib.hid (bthen HT27.out hb HT27.out.size)
        obtain ⟨q5, hq5⟩ : ∃ q, sqN x0 y0 x1 y1 = q := ⟨_, rfl⟩
        obtain ⟨k5, hk5⟩ : ∃ k, sqK x0 y0 x1 y1 = k := ⟨_, rfl⟩
        have HQ5 := Lib.hid (And.intro hq5 hk5)
        clear hb hq5 hk5
        go_wp2_with fail
        refine (sqb_impl_at _ _ _ _ _ _ _ HQ5.out.1 HQ5.out.2).mono ?_
        rintro e w31 ⟨rfl, hb⟩
        have HX31 := Lib.hid (And.intro (bthen HT30.out (box2 hb).1 HT30.out.size) (box2 hb).2)
        clear hb
        have c0 := HX31.out.2.1.at_ 0 _ rfl
        have c1 := HX31.out.2.1.at_ 1 _ rfl
        have c2 := HX31.out.2.2.at_ 0 _ rfl
        have c3 := HX31.out.2.2.at_ 1 _ rfl
        go_wp2_with fail
        refine (sqb_spec_at _ _ _ _ _ _ _ HQ5.out.1 HQ5.out.2).mono ?_
        rintro e w32 ⟨rfl, hb⟩
        have HT32 := Lib.hid (bthen HX31.out.1 hb HX31.out.1.size)
        clear hb c0 c1 c2 c3
        go_wp2_with fail
        go_ret
        exact ⟨rfl, HT32.out⟩

/-! ### The row's step. -/
set_option maxRecDepth 100000 in
theorem lifted (os : Os) (started : os.Started) (H : Type) (enc : TypeId × Value → H) :
    ReturnsInHanded {} Try.checked os 3 .any (Rows.fnSpotsSpec.pre6 enc Try.prog Try.f3 Rows.fnSpotsRow.domain false) (Rows.fnSpotsSpec.post enc Try.prog Try.f3 false true false false) := by
  refine returnsInHanded_of_change (C := Try.checked) own started (by kernel_rfl) Try.func3
    (ChangeSpec.witness6 (enc := enc) (C := Try.checked) false ⟨#[], #[.slice none 0 0], []⟩ 8 (by kernel_rfl) (by kernel_rfl) (by kernel_rfl) (by kernel_rfl)) ?_
  intro W base args ds gs before hval0 hW hcnd _
  have hval : ∀ (j : Nat) t v, Try.f3.params[j]? = some t → args[j]? = some v → Value.okWide Try.prog W .any base t v := hval0
  have hW' := hW
  obtain ⟨p, q, hA0, hV, rfl, hfz, hnd⟩ := hW
  have hA : DataW.TrodAll enc Try.prog W 0 (fun _ => true) true Try.f3.params.toList args.toList ds p := hA0
  rw [Try.params3] at hA hval
  obtain ⟨v0, vs0, d0, ds0, p0, q0, hargs, rfl, rfl, h0, r0⟩ := trodAll_cons hA
  obtain ⟨rfl, rfl, rfl⟩ := trodAll_nil r0
  obtain rfl : args = #[v0] := by cases args; simp_all
  obtain ⟨rfl, rfl⟩ := trodVars_none hV
  have k0 := h0
  have lt0 : ∀ x ∈ p0, x.block < W.heap.size := by obtain ⟨m, hm⟩ := k0; exact DataW.trod_lt m _ _ _ hm
  obtain ⟨A0, n0, c0, rfl⟩ := okWide_slice Try.underlying22 (hval 0 22 v0 rfl rfl)
  obtain ⟨m0, w0⟩ := open_code h0
  clear hA0 hval0
  refine (walk A0 n0 c0 W m0 w0).mono fun e W1 ⟨he, bel⟩ => ?_
  subst he
  exact ⟨_, rfl, _, _, _, [], _, [], hW', trodAll_mk1 (shut_bool Try.underlying4 _), (trodAll_cons_mk (Below.trod laidOut (by kernel_rfl) (of_decide_eq_true (by kernel_rfl)) k0 bel lt0) trodAll_mk0), rfl, bel.frame _, fun h => by cases h⟩

/-- The statement. -/
theorem proved : Rows.FnSpotsSaid :=
  OpenClaim.holds_of_wide 3 Try.f3 rfl rfl rfl rfl rfl rfl rfl ⟨rfl, rfl, rfl, rfl, rfl⟩ rfl rfl rfl rfl rfl (by kernel_rfl) Try.func3 (by kernel_rfl)
    (of_decide_eq_true (by kernel_rfl)) (by unfold Func.isWrapper; first | (rw [if_pos (by decide +kernel)]; kernel_rfl) | (rw [if_neg (by decide +kernel)]; exact ⟨rfl, rfl⟩))
    (fun os started H enc _ => lifted os started H enc)
#print axioms proved
end Go.Proofs.Ytjnimedbjmihaaa.fnSpots
