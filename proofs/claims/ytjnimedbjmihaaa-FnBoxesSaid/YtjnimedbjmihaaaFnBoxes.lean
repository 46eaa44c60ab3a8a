/-
  Proved here: for every slice of bytes the law laws.FnBoxes returns true (on the boxes and spots drawn from it: SharedBox, IsBox, TurnOf and LengthBetween answer as their models, a shared box is shared both ways and is its own share with each, a turn changes its sign with its direction, and a length is the whole root of the square), and the argument reads afterwards as before.
  Conditions: none beyond the row's own.
-/
import Derived.Test.YtjnimedbjmihaaaOpen
import Derived.Test.YtjnimedbjmihaaaDr
import Derived.Test.YtjnimedbjmihaaaShi
import Derived.Test.YtjnimedbjmihaaaTurn
import Derived.Test.YtjnimedbjmihaaaLen
import Derived.Deep.RegionHeld3
namespace Go.Proofs.Ytjnimedbjmihaaa.fnBoxes
open Go.Joins Go.ChangeShapes Go.WideShapes Go.ChangeAt Go.RowKit Go.Deep
set_option linter.unusedVariables false

theorem big_yes (A : Option Addr) (n c : Nat) (w : World) (h : (65536 : Int) < n) : Calls Try.prog 15 #[.slice A n c] w fun e w' => e = .returned (.bool true) ∧ w = w' := by
  go_enter Try.func15, Try.ntmps15
  go_wp2
  go_ret
  exact ⟨by simp, rfl⟩
theorem big_no (A : Option Addr) (n c : Nat) (w : World) (h : ¬ (65536 : Int) < n) : Calls Try.prog 15 #[.slice A n c] w fun e w' => e = .returned (.bool false) ∧ w = w' := by
  go_enter Try.func15, Try.ntmps15
  go_wp2
  go_ret
  exact ⟨by simp, rfl⟩
/-- A slice of bytes that came in, as the reader needs it. -/
theorem open_code {H : Type} {enc : TypeId × Value → H} {w : World} {A : Option Addr} {n c : Nat} {d : DataW H} {p : List MemPlace} (h : DataW.Trod enc Try.prog w 0 (fun _ => true) true 22 (.slice A n c) d p) :
    n ≤ maxLen ∧ CodeRow w.heap.size A n w := by
  obtain ⟨fuel, hf⟩ := h
  rcases open_ints Try.underlying22 Try.underlying5 (by kernel_rfl) hf with ⟨hcs, _⟩ | ⟨x, l, c', zs, hcs, _, hl, hm, hz, _, hcell, hwz⟩
  · simp [Value.cells] at hcs
    obtain ⟨rfl, rfl, rfl⟩ := hcs
    exact ⟨by unfold maxLen; omega, fun j hj => absurd hj (by omega)⟩
  · simp [Value.cells] at hcs
    obtain ⟨rfl, rfl, rfl⟩ := hcs
    refine ⟨by omega, fun j hj => ?_⟩
    have hz' : zs.length = c := by simpa using hz
    have h1 := hcell j (by omega)
    have hlt := World.block_lt_of_cell? w _ h1
    have hblk : (x.add j).block = x.block := by unfold Addr.add; split <;> rfl
    have hmem : zs.getD j 0 ∈ zs := by
      rw [List.getD_eq_getElem?_getD, List.getElem?_eq_getElem (by omega)]
      exact List.getElem_mem _
    have h3 := bounds_u8 (hwz _ hmem)
    refine ⟨x, (zs.getD j 0).toNat, rfl, by rw [← hblk]; exact hlt, by omega, ?_⟩
    rw [h1]
    have e : (((zs.getD j 0).toNat : Nat) : Int) = zs.getD j 0 := by omega
    rw [e]

/-! ### Plain facts -/
theorem shK_comm (a b c d a' b' c' d' : Int) : shK a' b' c' d' a b c d = shK a b c d a' b' c' d' := by
  unfold shK
  rw [Bool.and_comm (boxB a' b' c' d'), Int.max_comm a' a, Int.max_comm b' b, Int.min_comm c' c, Int.min_comm d' d]
theorem shK_self {a b c d a' b' c' d' : Int} (h : shK a b c d a' b' c' d' = true) : shK (max a a') (max b b') (min c c') (min d d') a b c d = true ∧ max (max a a') a = max a a' ∧ max (max b b') b = max b b' ∧ min (min c c') c = min c c' ∧ min (min d d') d = min d d' := by
  unfold shK at h ⊢
  rw [Bool.and_eq_true, Bool.and_eq_true] at h
  obtain ⟨⟨h1, h2⟩, h3⟩ := h
  have e1 : max (max a a') a = max a a' := by omega
  have e2 : max (max b b') b = max b b' := by omega
  have e3 : min (min c c') c = min c c' := by omega
  have e4 : min (min d d') d = min d d' := by omega
  rw [e1, e2, e3, e4, h1, h3]
  exact ⟨rfl, rfl, rfl, rfl, rfl⟩
theorem ifK_true (x : Int) : ifK true x = x := rfl
theorem shared_impl_at (a b c d a' b' c' d' : Int) (x y z u : Int) (w : World) (hk : shK a b c d a' b' c' d' = true) (h1 : max a a' = x) (h2 : max b b' = y) (h3 : min c c' = z) (h4 : min d d' = u) :
    Calls Try.prog 35 #[.agg #[.int .i64 a, .int .i64 b, .int .i64 c, .int .i64 d], .agg #[.int .i64 a', .int .i64 b', .int .i64 c', .int .i64 d']] w fun e w' => e = .returned (.tuple #[.agg #[.int .i64 x, .int .i64 y, .int .i64 z, .int .i64 u], .bool true]) ∧ Below w.heap.size w w' := by
  subst h1 h2 h3 h4
  exact (shared_impl a b c d a' b' c' d' w).mono fun e w' ⟨he, hb⟩ => ⟨by rw [he, boxRes_yes hk], hb⟩
theorem cr_back (ax ay bx by_ cx cy : Int) : crI cx cy bx by_ ax ay = - crI ax ay bx by_ cx cy := by
  unfold crI; grind
theorem cr_next (ax ay bx by_ cx cy : Int) : crI bx by_ cx cy ax ay = crI ax ay bx by_ cx cy := by
  unfold crI; grind
theorem sgn_back (n : Int) : sgn (-n) = - sgn n := by
  rcases Int.lt_trichotomy n 0 with h | h | h
  · rw [sgn_neg h, sgn_pos (by omega)]; rfl
  · subst h; rfl
  · rw [sgn_pos h, sgn_neg (by omega)]
theorem turn_back (ax ay bx by_ cx cy : Int) : turnN cx cy bx by_ ax ay = - turnN ax ay bx by_ cx cy ∧ turnK cx cy bx by_ ax ay = turnK ax ay bx by_ cx cy := by
  have hk : turnK cx cy bx by_ ax ay = turnK ax ay bx by_ cx cy := by
    unfold turnK
    rcases spotB ax ay <;> rcases spotB bx by_ <;> rcases spotB cx cy <;> rfl
  refine ⟨?_, hk⟩
  unfold turnN
  rw [hk, cr_back, sgn_back]
  split <;> simp
theorem turn_next (ax ay bx by_ cx cy : Int) : turnN bx by_ cx cy ax ay = turnN ax ay bx by_ cx cy ∧ turnK bx by_ cx cy ax ay = turnK ax ay bx by_ cx cy := by
  have hk : turnK bx by_ cx cy ax ay = turnK ax ay bx by_ cx cy := by
    unfold turnK
    rcases spotB ax ay <;> rcases spotB bx by_ <;> rcases spotB cx cy <;> rfl
  refine ⟨?_, hk⟩
  unfold turnN
  rw [hk, cr_next]
theorem sgn_bd (n : Int) : -1 ≤ sgn n ∧ sgn n ≤ 1 := by
  unfold sgn; split
  · omega
  · split <;> omega
theorem turn_bd (ax ay bx by_ cx cy : Int) : -1 ≤ turnN ax ay bx by_ cx cy ∧ turnN ax ay bx by_ cx cy ≤ 1 := by
  have := sgn_bd (crI ax ay bx by_ cx cy)
  unfold turnN; split <;> omega
theorem turn_impl_at (ax ay bx by_ cx cy T : Int) (k : Bool) (w : World) (h1 : turnN ax ay bx by_ cx cy = T) (h2 : turnK ax ay bx by_ cx cy = k) :
    Calls Try.prog 39 #[.agg #[.int .i64 ax, .int .i64 ay], .agg #[.int .i64 bx, .int .i64 by_], .agg #[.int .i64 cx, .int .i64 cy]] w fun e w' => e = .returned (.tuple #[.int .i64 T, .bool k]) ∧ Below w.heap.size w w' := by
  subst h1 h2; exact turn_impl ax ay bx by_ cx cy w
theorem turn_spec_at (ax ay bx by_ cx cy T : Int) (k : Bool) (w : World) (h1 : turnN ax ay bx by_ cx cy = T) (h2 : turnK ax ay bx by_ cx cy = k) :
    Calls Try.prog 40 #[.agg #[.int .i64 ax, .int .i64 ay], .agg #[.int .i64 bx, .int .i64 by_], .agg #[.int .i64 cx, .int .i64 cy]] w fun e w' => e = .returned (.tuple #[.int .i64 T, .bool k]) ∧ Below w.heap.size w w' := by
  subst h1 h2; exact turn_spec ax ay bx by_ cx cy w
theorem len_impl_at (ax ay bx by_ L : Int) (k : Bool) (w : World) (h1 : lenN ax ay bx by_ = L) (h2 : sqK ax ay bx by_ = k) :
    Calls Try.prog 42 #[.agg #[.int .i64 ax, .int .i64 ay], .agg #[.int .i64 bx, .int .i64 by_]] w fun e w' => e = .returned (.tuple #[.int .i64 L, .bool k]) ∧ Below w.heap.size w w' := by
  subst h1 h2; exact len_impl ax ay bx by_ w
theorem len_spec_at (ax ay bx by_ L : Int) (k : Bool) (w : World) (h1 : lenN ax ay bx by_ = L) (h2 : sqK ax ay bx by_ = k) :
    Calls Try.prog 43 #[.agg #[.int .i64 ax, .int .i64 ay], .agg #[.int .i64 bx, .int .i64 by_]] w fun e w' => e = .returned (.tuple #[.int .i64 L, .bool k]) ∧ Below w.heap.size w w' := by
  subst h1 h2; exact len_spec ax ay bx by_ w
theorem sqb_impl_at (ax ay bx by_ Q : Int) (k : Bool) (w : World) (h1 : sqN ax ay bx by_ = Q) (h2 : sqK ax ay bx by_ = k) :
    Calls Try.prog 23 #[.agg #[.int .i64 ax, .int .i64 ay], .agg #[.int .i64 bx, .int .i64 by_]] w fun e w' => e = .returned (.tuple #[.int .i64 Q, .bool k]) ∧ Below w.heap.size w w' := by
  subst h1 h2; exact sqb_impl ax ay bx by_ w
theorem len_bds {ax ay bx by_ L Q : Int} (hk : sqK ax ay bx by_ = true) (hL : lenN ax ay bx by_ = L) (hQ : sqN ax ay bx by_ = Q) :
    0 ≤ L ∧ L ≤ 2000000 ∧ 0 ≤ L * L ∧ L * L ≤ Q ∧ Q < (L + 1) * (L + 1) ∧ (L + 1) * (L + 1) ≤ 10000000 := by
  have hn := sq_nat hk
  have e1 : L = ((rootN (sqI ax ay bx by_).toNat : Nat) : Int) := by rw [← hL]; unfold lenN; rw [if_pos hk]
  have e2 : Q = (((sqI ax ay bx by_).toNat : Nat) : Int) := by rw [← hQ]; unfold sqN; rw [if_pos hk]; exact hn.1
  obtain ⟨s1, s2⟩ := rootN_spec (sqI ax ay bx by_).toNat
  generalize (sqI ax ay bx by_).toNat = N at *
  generalize rootN N = r at *
  subst e1 e2
  have f1 : (r : Int) * (r : Int) = ((r * r : Nat) : Int) := (Int.natCast_mul _ _).symm
  have f2 : ((r : Int) + 1) * ((r : Int) + 1) = (((r + 1) * (r + 1) : Nat) : Int) := by rw [Int.natCast_mul]; rfl
  have f3 : (r + 1) * (r + 1) = r * r + r + r + 1 := by rw [Nat.add_mul, Nat.mul_add, Nat.one_mul, Nat.mul_one]; omega
  have f4 : r ≤ r * r := by
    rcases Nat.eq_zero_or_pos r with h | h
    · omega
    · have := Nat.mul_le_mul h (Nat.le_refl r); omega
  rw [f1, f2]
  omega
/-! ### The walk: the Go text returns true, and nothing that was there has turned. -/
set_option maxRecDepth 20000 in
set_option maxHeartbeats 1600000 in
theorem walk (A : Option Addr) (n c : Nat) (w : World) (hm : n ≤ maxLen) (hr : CodeRow w.heap.size A n w) :
    Calls Try.prog 4 #[.slice A n c] w fun e w' => e = .returned (.bool true) ∧ Below w.heap.size w w' := by
  by_cases hbig : (65536 : Int) < n
  · go_enter Try.func4, Try.ntmps4
    go_wp2_with fail
    refine (big_yes A n c w hbig).mono ?_
    rintro e w' ⟨rfl, rfl⟩
    go_wp2
    go_ret
    exact ⟨rfl, Below.refl _ _⟩
  have HR := Lib.hid hr
  have HBig := Lib.hid (big_no A n c w hbig)
  clear hr hbig
  go_enter Try.func4, Try.ntmps4
  go_wp2_with fail
  refine HBig.out.mono ?_
  rintro e w' ⟨rfl, rfl⟩
  go_wp2_with fail
  refine (draw_shared _ _ _ _ HR.out).mono ?_
  rintro e w1 ⟨a, b, cc, d, a', b', c', d', rfl, hb1⟩
  have HB1 := Lib.hid hb1
  clear hb1
  go_wp2_with fail
  refine (shared_impl _ _ _ _ _ _ _ _ _).mono ?_
  rintro e w2 ⟨rfl, hb⟩
  have HX2 := Lib.hid (box2 hb)
  have HB2 := Lib.hid (bthen HB1.out HX2.out.1 HB1.out.size)
  clear hb
  dsimp only [boxRes]
  have HA := HX2.out.2.1.alloc (.cells #[.int .i64 (ifK (shK a b cc d a' b' c' d') (max a a')), .int .i64 (ifK (shK a b cc d a' b' c' d') (max b b')), .int .i64 (ifK (shK a b cc d a' b' c' d') (min cc c')), .int .i64 (ifK (shK a b cc d a' b' c' d') (min d d'))] 35)
  have HA' := HX2.out.2.2.alloc (.cells #[.int .i64 (ifK (shK a b cc d a' b' c' d') (max a a')), .int .i64 (ifK (shK a b cc d a' b' c' d') (max b b')), .int .i64 (ifK (shK a b cc d a' b' c' d') (min cc c')), .int .i64 (ifK (shK a b cc d a' b' c' d') (min d d'))] 35)
  have c0 := HA.at_ 0 _ rfl
  have c1 := HA.at_ 1 _ rfl
  have c2 := HA.at_ 2 _ rfl
  have c3 := HA.at_ 3 _ rfl
  have c4 := HA'.at_ 0 _ rfl
  have c5 := HA'.at_ 1 _ rfl
  have c6 := HA'.at_ 2 _ rfl
  have c7 := HA'.at_ 3 _ rfl
  go_wp2_with fail
  refine (shared_spec _ _ _ _ _ _ _ _ _).mono ?_
  rintro e w3 ⟨rfl, hb⟩
  have HX3 := Lib.hid (And.intro (bthen HB2.out (box1 hb).1 HB2.out.size) (And.intro (HA.next hb) (And.intro (HA'.next hb) (box1 hb).2)))
  clear hb c0 c1 c2 c3 c4 c5 c6 c7 HA HA'
  dsimp only [boxRes]
  go_wp2_with fail
  obtain ⟨W4, hW4⟩ : ∃ W4, W4 = w3.alloc (.cells #[.int .i64 (ifK (shK a b cc d a' b' c' d') (max a a')), .int .i64 (ifK (shK a b cc d a' b' c' d') (max b b')), .int .i64 (ifK (shK a b cc d a' b' c' d') (min cc c')), .int .i64 (ifK (shK a b cc d a' b' c' d') (min d d'))] 35) := ⟨_, rfl⟩
  have HX4 : Hid (Below w.heap.size w W4 ∧ Has W4 w1.heap.size [.int .i64 a, .int .i64 b, .int .i64 cc, .int .i64 d] ∧ Has W4 (w1.heap.size + 1) [.int .i64 a', .int .i64 b', .int .i64 c', .int .i64 d'] ∧ Has W4 w2.heap.size [.int .i64 (ifK (shK a b cc d a' b' c' d') (max a a')), .int .i64 (ifK (shK a b cc d a' b' c' d') (max b b')), .int .i64 (ifK (shK a b cc d a' b' c' d') (min cc c')), .int .i64 (ifK (shK a b cc d a' b' c' d') (min d d'))] ∧ Has W4 w3.heap.size [.int .i64 (ifK (shK a b cc d a' b' c' d') (max a a')), .int .i64 (ifK (shK a b cc d a' b' c' d') (max b b')), .int .i64 (ifK (shK a b cc d a' b' c' d') (min cc c')), .int .i64 (ifK (shK a b cc d a' b' c' d') (min d d'))]) := by
    rw [hW4]
    exact ⟨HX3.out.1.alloc HX3.out.1.size _, HX3.out.2.1.alloc _, HX3.out.2.2.1.alloc _, HX3.out.2.2.2.alloc _, Has.new _ _ _⟩
  rw [← hW4]
  clear hW4
  have a0 := HX4.out.2.1.at_ 0 _ rfl
  have a1 := HX4.out.2.1.at_ 1 _ rfl
  have a2 := HX4.out.2.1.at_ 2 _ rfl
  have a3 := HX4.out.2.1.at_ 3 _ rfl
  have b0 := HX4.out.2.2.2.1.at_ 0 _ rfl
  have b1 := HX4.out.2.2.2.1.at_ 1 _ rfl
  have b2 := HX4.out.2.2.2.1.at_ 2 _ rfl
  have b3 := HX4.out.2.2.2.1.at_ 3 _ rfl
  have e0 := HX4.out.2.2.2.2.at_ 0 _ rfl
  have e1 := HX4.out.2.2.2.2.at_ 1 _ rfl
  have e2 := HX4.out.2.2.2.2.at_ 2 _ rfl
  have e3 := HX4.out.2.2.2.2.at_ 3 _ rfl
  have HK : Hid ((∀ W : World, Below W4.heap.size W4 W → W.cell? ⟨w1.heap.size, 0, none⟩ = some (.int .i64 a) ∧ W.cell? ⟨w1.heap.size, 1, none⟩ = some (.int .i64 b) ∧ W.cell? ⟨w1.heap.size, 2, none⟩ = some (.int .i64 cc) ∧ W.cell? ⟨w1.heap.size, 3, none⟩ = some (.int .i64 d) ∧ W.cell? ⟨w2.heap.size, 0, none⟩ = some (.int .i64 (ifK (shK a b cc d a' b' c' d') (max a a'))) ∧ W.cell? ⟨w2.heap.size, 1, none⟩ = some (.int .i64 (ifK (shK a b cc d a' b' c' d') (max b b'))) ∧ W.cell? ⟨w2.heap.size, 2, none⟩ = some (.int .i64 (ifK (shK a b cc d a' b' c' d') (min cc c'))) ∧ W.cell? ⟨w2.heap.size, 3, none⟩ = some (.int .i64 (ifK (shK a b cc d a' b' c' d') (min d d'))) ∧ W.cell? ⟨w3.heap.size, 0, none⟩ = some (.int .i64 (ifK (shK a b cc d a' b' c' d') (max a a'))) ∧ W.cell? ⟨w3.heap.size, 1, none⟩ = some (.int .i64 (ifK (shK a b cc d a' b' c' d') (max b b'))) ∧ W.cell? ⟨w3.heap.size, 2, none⟩ = some (.int .i64 (ifK (shK a b cc d a' b' c' d') (min cc c'))) ∧ W.cell? ⟨w3.heap.size, 3, none⟩ = some (.int .i64 (ifK (shK a b cc d a' b' c' d') (min d d'))) ∧ Hid (Below W4.heap.size W4 W)) ∧ (∀ W : World, (W.cell? ⟨w1.heap.size, 0, none⟩ = some (.int .i64 a) ∧ W.cell? ⟨w1.heap.size, 1, none⟩ = some (.int .i64 b) ∧ W.cell? ⟨w1.heap.size, 2, none⟩ = some (.int .i64 cc) ∧ W.cell? ⟨w1.heap.size, 3, none⟩ = some (.int .i64 d) ∧ W.cell? ⟨w2.heap.size, 0, none⟩ = some (.int .i64 (ifK (shK a b cc d a' b' c' d') (max a a'))) ∧ W.cell? ⟨w2.heap.size, 1, none⟩ = some (.int .i64 (ifK (shK a b cc d a' b' c' d') (max b b'))) ∧ W.cell? ⟨w2.heap.size, 2, none⟩ = some (.int .i64 (ifK (shK a b cc d a' b' c' d') (min cc c'))) ∧ W.cell? ⟨w2.heap.size, 3, none⟩ = some (.int .i64 (ifK (shK a b cc d a' b' c' d') (min d d'))) ∧ W.cell? ⟨w3.heap.size, 0, none⟩ = some (.int .i64 (ifK (shK a b cc d a' b' c' d') (max a a'))) ∧ W.cell? ⟨w3.heap.size, 1, none⟩ = some (.int .i64 (ifK (shK a b cc d a' b' c' d') (max b b'))) ∧ W.cell? ⟨w3.heap.size, 2, none⟩ = some (.int .i64 (ifK (shK a b cc d a' b' c' d') (min cc c'))) ∧ W.cell? ⟨w3.heap.size, 3, none⟩ = some (.int .i64 (ifK (shK a b cc d a' b' c' d') (min d d'))) ∧ Hid (Below W4.heap.size W4 W)) → Below W4.heap.size W4 W)) := Lib.hid ⟨fun W h => ⟨cell_next h (by assumption), cell_next h (by assumption), cell_next h (by assumption), cell_next h (by assumption), cell_next h (by assumption), cell_next h (by assumption), cell_next h (by assumption), cell_next h (by assumption), cell_next h (by assumption), cell_next h (by assumption), cell_next h (by assumption), cell_next h (by assumption), Lib.hid h⟩, fun W h => h.2.2.2.2.2.2.2.2.2.2.2.2.out⟩
  go_region_held3 (fun W => W.cell? ⟨w1.heap.size, 0, none⟩ = some (.int .i64 a) ∧ W.cell? ⟨w1.heap.size, 1, none⟩ = some (.int .i64 b) ∧ W.cell? ⟨w1.heap.size, 2, none⟩ = some (.int .i64 cc) ∧ W.cell? ⟨w1.heap.size, 3, none⟩ = some (.int .i64 d) ∧ W.cell? ⟨w2.heap.size, 0, none⟩ = some (.int .i64 (ifK (shK a b cc d a' b' c' d') (max a a'))) ∧ W.cell? ⟨w2.heap.size, 1, none⟩ = some (.int .i64 (ifK (shK a b cc d a' b' c' d') (max b b'))) ∧ W.cell? ⟨w2.heap.size, 2, none⟩ = some (.int .i64 (ifK (shK a b cc d a' b' c' d') (min cc c'))) ∧ W.cell? ⟨w2.heap.size, 3, none⟩ = some (.int .i64 (ifK (shK a b cc d a' b' c' d') (min d d'))) ∧ W.cell? ⟨w3.heap.size, 0, none⟩ = some (.int .i64 (ifK (shK a b cc d a' b' c' d') (max a a'))) ∧ W.cell? ⟨w3.heap.size, 1, none⟩ = some (.int .i64 (ifK (shK a b cc d a' b' c' d') (max b b'))) ∧ W.cell? ⟨w3.heap.size, 2, none⟩ = some (.int .i64 (ifK (shK a b cc d a' b' c' d') (min cc c'))) ∧ W.cell? ⟨w3.heap.size, 3, none⟩ = some (.int .i64 (ifK (shK a b cc d a' b' c' d') (min d d'))) ∧ Hid (Below W4.heap.size W4 W)) (first | with_reducible assumption | with_reducible exact HK.out.1 _ (Below.refl _ _).drew | with_reducible exact HK.out.1 _ (bthen (HK.out.2 _ (by assumption)) hb (HK.out.2 _ (by assumption)).size) | with_reducible exact HK.out.1 _ ((HK.out.2 _ (by assumption)).alloc (HK.out.2 _ (by assumption)).size _) | with_reducible exact HK.out.1 _ (HBw.out.alloc HBw.out.size _) | with_reducible exact HK.out.1 _ ((Below.refl _ _).alloc (Nat.le_refl _) _) | with_reducible exact HK.out.1 _ ((HK.out.2 _ (by assumption)).alloc (HK.out.2 _ (by assumption)).size _).drew | with_reducible exact HK.out.1 _ (HBw.out.alloc HBw.out.size _).drew | with_reducible exact HK.out.1 _ ((Below.refl _ _).alloc (Nat.le_refl _) _).drew) ((first | (go_at_call 26; refine (isBox_impl _ _ _ _ _).mono ?_; rintro e w5 ⟨rfl, hb⟩; have HBw := Lib.hid (bthen (HK.out.2 _ (by assumption)) hb (HK.out.2 _ (by assumption)).size); dsimp only) | (go_at_call 37; refine (isBox_spec _ _ _ _ _).mono ?_; rintro e w5 ⟨rfl, hb⟩; have HBw := Lib.hid (bthen (HK.out.2 _ (by assumption)) hb (HK.out.2 _ (by assumption)).size); dsimp only)))
  have HY := Lib.hid (HK.out.2 w5 (by assumption))
  have HX5 := Lib.hid (And.intro (bthen HX4.out.1 HY.out HX4.out.1.size) (And.intro (HX4.out.2.1.next HY.out) (And.intro (HX4.out.2.2.1.next HY.out) (HX4.out.2.2.2.1.next HY.out))))
  clear HK a0 a1 a2 a3 b0 b1 b2 b3 e0 e1 e2 e3
  rcases hk : shK a b cc d a' b' c' d' with _ | _
  · have HT := Lib.hid HX5.out.1
    go_wp2_with fail
    refine (draw_turn _ _ _ _ (HR.out.below HT.out HT.out.size)).mono ?_
    rintro e w10 ⟨x0, y0, x1, y1, x2, y2, rfl, hb⟩
    have HT10 := Lib.hid (bthen HT.out hb HT.out.size)
    clear hb
    obtain ⟨T, hTe⟩ : ∃ T, turnN x0 y0 x1 y1 x2 y2 = T := ⟨_, rfl⟩
    have hT := turn_bd x0 y0 x1 y1 x2 y2
    rw [hTe] at hT
    obtain ⟨hT1, hT2⟩ := hT
    rcases hk1 : turnK x0 y0 x1 y1 x2 y2 with _ | _
    · have HK2 := Lib.hid (And.intro hTe hk1)
      clear hTe hk1
      go_wp2_with fail
      refine (turn_impl_at _ _ _ _ _ _ _ _ _ HK2.out.1 HK2.out.2).mono ?_
      rintro e w11 ⟨rfl, hb⟩
      have HX11 := Lib.hid (And.intro (bthen HT10.out (box3 hb).1 HT10.out.size) (box3 hb).2)
      clear hb
      have c0 := HX11.out.2.1.at_ 0 _ rfl
      have c1 := HX11.out.2.1.at_ 1 _ rfl
      have c2 := HX11.out.2.2.1.at_ 0 _ rfl
      have c3 := HX11.out.2.2.1.at_ 1 _ rfl
      have c4 := HX11.out.2.2.2.at_ 0 _ rfl
      have c5 := HX11.out.2.2.2.at_ 1 _ rfl
      go_wp2_with fail
      refine (turn_spec_at _ _ _ _ _ _ _ _ _ HK2.out.1 HK2.out.2).mono ?_
      rintro e w12 ⟨rfl, hb⟩
      have HX12 := Lib.hid (And.intro (bthen HX11.out.1 hb HX11.out.1.size) (And.intro (HX11.out.2.1.next hb) (And.intro (HX11.out.2.2.1.next hb) (HX11.out.2.2.2.next hb))))
      have HT12 := Lib.hid HX12.out.1
      clear hb c0 c1 c2 c3 c4 c5
      go_wp2_with fail
      refine (draw_len _ _ _ _ (HR.out.below HT12.out HT12.out.size)).mono ?_
      rintro e w20 ⟨p0, q0, p1, q1, rfl, hb⟩
      have HT20 := Lib.hid (bthen HT12.out hb HT12.out.size)
      clear hb
      obtain ⟨L, hL⟩ : ∃ L, lenN p0 q0 p1 q1 = L := ⟨_, rfl⟩
      obtain ⟨Q, hQ⟩ : ∃ Q, sqN p0 q0 p1 q1 = Q := ⟨_, rfl⟩
      rcases hk2 : sqK p0 q0 p1 q1 with _ | _
      · have HL := Lib.hid (And.intro hL (And.intro hQ hk2))
        clear hL hQ hk2
        go_wp2_with fail
        refine (len_impl_at _ _ _ _ _ _ _ HL.out.1 HL.out.2.2).mono ?_
        rintro e w21 ⟨rfl, hb⟩
        have HX21 := Lib.hid (And.intro (bthen HT20.out (box2 hb).1 HT20.out.size) (box2 hb).2)
        clear hb
        have c0 := HX21.out.2.1.at_ 0 _ rfl
        have c1 := HX21.out.2.1.at_ 1 _ rfl
        have c2 := HX21.out.2.2.at_ 0 _ rfl
        have c3 := HX21.out.2.2.at_ 1 _ rfl
        go_wp2_with fail
        refine (len_spec_at _ _ _ _ _ _ _ HL.out.1 HL.out.2.2).mono ?_
        rintro e w22 ⟨rfl, hb⟩
        have HT22 := Lib.hid (bthen HX21.out.1 hb HX21.out.1.size)
        clear hb c0 c1 c2 c3
        go_wp2_with fail
        go_ret
        exact ⟨rfl, HT22.out⟩
      · have HL := Lib.hid (And.intro hL (And.intro hQ hk2))
        have HB := len_bds hk2 hL hQ
        clear hL hQ hk2
        obtain ⟨hb0, hb1, hb2, hb3, hb4, hb5⟩ := HB
        go_wp2_with fail
        refine (len_impl_at _ _ _ _ _ _ _ HL.out.1 HL.out.2.2).mono ?_
        rintro e w21 ⟨rfl, hb⟩
        have HX21 := Lib.hid (And.intro (bthen HT20.out (box2 hb).1 HT20.out.size) (box2 hb).2)
        clear hb
        have c0 := HX21.out.2.1.at_ 0 _ rfl
        have c1 := HX21.out.2.1.at_ 1 _ rfl
        have c2 := HX21.out.2.2.at_ 0 _ rfl
        have c3 := HX21.out.2.2.at_ 1 _ rfl
        go_wp2_with fail
        refine (len_spec_at _ _ _ _ _ _ _ HL.out.1 HL.out.2.2).mono ?_
        rintro e w22 ⟨rfl, hb⟩
        have HX22 := Lib.hid (And.intro (bthen HX21.out.1 hb HX21.out.1.size) (And.intro (HX21.out.2.1.next hb) (HX21.out.2.2.next hb)))
        clear hb c0 c1 c2 c3
        have c0 := HX22.out.2.1.at_ 0 _ rfl
        have c1 := HX22.out.2.1.at_ 1 _ rfl
        have c2 := HX22.out.2.2.at_ 0 _ rfl
        have c3 := HX22.out.2.2.at_ 1 _ rfl
        go_wp2_with fail
        refine (sqb_impl_at _ _ _ _ _ _ _ HL.out.2.1 HL.out.2.2).mono ?_
        rintro e w23 ⟨rfl, hb⟩
        have HT23 := Lib.hid (bthen HX22.out.1 hb HX22.out.1.size)
        clear hb c0 c1 c2 c3
        go_wp2_with fail
        go_ret
        exact ⟨rfl, HT23.out⟩
    · have HK2 := Lib.hid (And.intro hTe hk1)
      clear hTe hk1
      go_wp2_with fail
      refine (turn_impl_at _ _ _ _ _ _ _ _ _ HK2.out.1 HK2.out.2).mono ?_
      rintro e w11 ⟨rfl, hb⟩
      have HX11 := Lib.hid (And.intro (bthen HT10.out (box3 hb).1 HT10.out.size) (box3 hb).2)
      clear hb
      have c0 := HX11.out.2.1.at_ 0 _ rfl
      have c1 := HX11.out.2.1.at_ 1 _ rfl
      have c2 := HX11.out.2.2.1.at_ 0 _ rfl
      have c3 := HX11.out.2.2.1.at_ 1 _ rfl
      have c4 := HX11.out.2.2.2.at_ 0 _ rfl
      have c5 := HX11.out.2.2.2.at_ 1 _ rfl
      go_wp2_with fail
      refine (turn_spec_at _ _ _ _ _ _ _ _ _ HK2.out.1 HK2.out.2).mono ?_
      rintro e w12 ⟨rfl, hb⟩
      have HX12 := Lib.hid (And.intro (bthen HX11.out.1 hb HX11.out.1.size) (And.intro (HX11.out.2.1.next hb) (And.intro (HX11.out.2.2.1.next hb) (HX11.out.2.2.2.next hb))))
      have HT12 := Lib.hid HX12.out.1
      clear hb c0 c1 c2 c3 c4 c5
      have c0 := HX12.out.2.1.at_ 0 _ rfl
      have c1 := HX12.out.2.1.at_ 1 _ rfl
      have c2 := HX12.out.2.2.1.at_ 0 _ rfl
      have c3 := HX12.out.2.2.1.at_ 1 _ rfl
      have c4 := HX12.out.2.2.2.at_ 0 _ rfl
      have c5 := HX12.out.2.2.2.at_ 1 _ rfl
      go_wp2_with fail
      refine (turn_impl_at _ _ _ _ _ _ (-T) true _ (by rw [(turn_back _ _ _ _ _ _).1, HK2.out.1]) (by rw [(turn_back _ _ _ _ _ _).2, HK2.out.2])).mono ?_
      rintro e w13 ⟨rfl, hb⟩
      have HX13 := Lib.hid (And.intro (bthen HX12.out.1 hb HX12.out.1.size) (And.intro (HX12.out.2.1.next hb) (And.intro (HX12.out.2.2.1.next hb) (HX12.out.2.2.2.next hb))))
      clear hb c0 c1 c2 c3 c4 c5
      have c0 := HX13.out.2.1.at_ 0 _ rfl
      have c1 := HX13.out.2.1.at_ 1 _ rfl
      have c2 := HX13.out.2.2.1.at_ 0 _ rfl
      have c3 := HX13.out.2.2.1.at_ 1 _ rfl
      have c4 := HX13.out.2.2.2.at_ 0 _ rfl
      have c5 := HX13.out.2.2.2.at_ 1 _ rfl
      go_wp2_with fail
      refine (turn_impl_at _ _ _ _ _ _ T true _ (by rw [(turn_next _ _ _ _ _ _).1, HK2.out.1]) (by rw [(turn_next _ _ _ _ _ _).2, HK2.out.2])).mono ?_
      rintro e w14 ⟨rfl, hb⟩
      have HT14 := Lib.hid (bthen HX13.out.1 hb HX13.out.1.size)
      clear hb c0 c1 c2 c3 c4 c5
      go_wp2_with fail
      refine (draw_len _ _ _ _ (HR.out.below HT14.out HT14.out.size)).mono ?_
      rintro e w20 ⟨p0, q0, p1, q1, rfl, hb⟩
      have HT20 := Lib.hid (bthen HT14.out hb HT14.out.size)
      clear hb
      obtain ⟨L, hL⟩ : ∃ L, lenN p0 q0 p1 q1 = L := ⟨_, rfl⟩
      obtain ⟨Q, hQ⟩ : ∃ Q, sqN p0 q0 p1 q1 = Q := ⟨_, rfl⟩
      rcases hk2 : sqK p0 q0 p1 q1 with _ | _
      · have HL := Lib.hid (And.intro hL (And.intro hQ hk2))
        clear hL hQ hk2
        go_wp2_with fail
        refine (len_impl_at _ _ _ _ _ _ _ HL.out.1 HL.out.2.2).mono ?_
        rintro e w21 ⟨rfl, hb⟩
        have HX21 := Lib.hid (And.intro (bthen HT20.out (box2 hb).1 HT20.out.size) (box2 hb).2)
        clear hb
        have c0 := HX21.out.2.1.at_ 0 _ rfl
        have c1 := HX21.out.2.1.at_ 1 _ rfl
        have c2 := HX21.out.2.2.at_ 0 _ rfl
        have c3 := HX21.out.2.2.at_ 1 _ rfl
        go_wp2_with fail
        refine (len_spec_at _ _ _ _ _ _ _ HL.out.1 HL.out.2.2).mono ?_
        rintro e w22 ⟨rfl, hb⟩
        have HT22 := Lib.hid (bthen HX21.out.1 hb HX21.out.1.size)
        clear hb c0 c1 c2 c3
        go_wp2_with fail
        go_ret
        exact ⟨rfl, HT22.out⟩
      · have HL := Lib.hid (And.intro hL (And.intro hQ hk2))
        have HB := len_bds hk2 hL hQ
        clear hL hQ hk2
        obtain ⟨hb0, hb1, hb2, hb3, hb4, hb5⟩ := HB
        go_wp2_with fail
        refine (len_impl_at _ _ _ _ _ _ _ HL.out.1 HL.out.2.2).mono ?_
        rintro e w21 ⟨rfl, hb⟩
        have HX21 := Lib.hid (And.intro (bthen HT20.out (box2 hb).1 HT20.out.size) (box2 hb).2)
        clear hb
        have c0 := HX21.out.2.1.at_ 0 _ rfl
        have c1 := HX21.out.2.1.at_ 1 _ rfl
        have c2 := HX21.out.2.2.at_ 0 _ rfl
        have c3 := HX21.out.2.2.at_ 1 _ rfl
        go_wp2_with fail
        refine (len_spec_at _ _ _ _ _ _ _ HL.out.1 HL.out.2.2).mono ?_
        rintro e w22 ⟨rfl, hb⟩
        have HX22 := Lib.hid (And.intro (bthen HX21.out.1 hb HX21.out.1.size) (And.intro (HX21.out.2.1.next hb) (HX21.out.2.2.next hb)))
        clear hb c0 c1 c2 c3
        have c0 := HX22.out.2.1.at_ 0 _ rfl
        have c1 := HX22.out.2.1.at_ 1 _ rfl
        have c2 := HX22.out.2.2.at_ 0 _ rfl
        have c3 := HX22.out.2.2.at_ 1 _ rfl
        go_wp2_with fail
        refine (sqb_impl_at _ _ _ _ _ _ _ HL.out.2.1 HL.out.2.2).mono ?_
        rintro e w23 ⟨rfl, hb⟩
        have HT23 := Lib.hid (bthen HX22.out.1 hb HX22.out.1.size)
        clear hb c0 c1 c2 c3
        go_wp2_with fail
        go_ret
        exact ⟨rfl, HT23.out⟩
  · have HKt := Lib.hid hk
    have HS := Lib.hid (shK_self hk)
    rw [hk] at HX5
    simp only [ifK_true] at HX5
    simp only [ifK_true]
    clear hk
    have a0 := HX5.out.2.1.at_ 0 _ rfl
    have a1 := HX5.out.2.1.at_ 1 _ rfl
    have a2 := HX5.out.2.1.at_ 2 _ rfl
    have a3 := HX5.out.2.1.at_ 3 _ rfl
    have b0 := HX5.out.2.2.1.at_ 0 _ rfl
    have b1 := HX5.out.2.2.1.at_ 1 _ rfl
    have b2 := HX5.out.2.2.1.at_ 2 _ rfl
    have b3 := HX5.out.2.2.1.at_ 3 _ rfl
    go_wp2_with fail
    refine (shared_impl_at _ _ _ _ _ _ _ _ (max a a') (max b b') (min cc c') (min d d') _ (by rw [shK_comm]; exact HKt.out) (Int.max_comm _ _) (Int.max_comm _ _) (Int.min_comm _ _) (Int.min_comm _ _)).mono ?_
    rintro e w6 ⟨rfl, hb⟩
    have HX6 := Lib.hid (And.intro (bthen HX5.out.1 hb HX5.out.1.size) (And.intro (HX5.out.2.1.next hb) (HX5.out.2.2.2.next hb)))
    clear hb a0 a1 a2 a3 b0 b1 b2 b3
    have HA := HX6.out.2.1.alloc (.cells (#[.int .i64 (max a a'), .int .i64 (max b b'), .int .i64 (min cc c'), .int .i64 (min d d')]) 35)
    have HO := HX6.out.2.2.alloc (.cells (#[.int .i64 (max a a'), .int .i64 (max b b'), .int .i64 (min cc c'), .int .i64 (min d d')]) 35)
    have a0 := HA.at_ 0 _ rfl
    have a1 := HA.at_ 1 _ rfl
    have a2 := HA.at_ 2 _ rfl
    have a3 := HA.at_ 3 _ rfl
    have b0 := HO.at_ 0 _ rfl
    have b1 := HO.at_ 1 _ rfl
    have b2 := HO.at_ 2 _ rfl
    have b3 := HO.at_ 3 _ rfl
    go_wp2_with fail
    refine (shared_impl_at _ _ _ _ _ _ _ _ (max a a') (max b b') (min cc c') (min d d') _ HS.out.1 HS.out.2.1 HS.out.2.2.1 HS.out.2.2.2.1 HS.out.2.2.2.2).mono ?_
    rintro e w7 ⟨rfl, hb⟩
    have HX7 := Lib.hid (And.intro (bthen HX6.out.1 (box1 hb).1 HX6.out.1.size) (And.intro (HO.next hb) (box1 hb).2))
    clear hb a0 a1 a2 a3 b0 b1 b2 b3 HA HO
    obtain ⟨W8, hW8⟩ : ∃ W8, W8 = w7.alloc (.cells (#[.int .i64 (max a a'), .int .i64 (max b b'), .int .i64 (min cc c'), .int .i64 (min d d')]) 35) := ⟨_, rfl⟩
    have HX8 : Hid (Below w.heap.size w W8 ∧ Has W8 w2.heap.size [.int .i64 (max a a'), .int .i64 (max b b'), .int .i64 (min cc c'), .int .i64 (min d d')] ∧ Has W8 w6.heap.size [.int .i64 (max a a'), .int .i64 (max b b'), .int .i64 (min cc c'), .int .i64 (min d d')] ∧ Has W8 w7.heap.size [.int .i64 (max a a'), .int .i64 (max b b'), .int .i64 (min cc c'), .int .i64 (min d d')]) := by
      rw [hW8]; exact ⟨HX7.out.1.alloc HX7.out.1.size _, HX7.out.2.1.alloc _, HX7.out.2.2.alloc _, Has.new _ _ _⟩
    have HE8 := Lib.hid hW8
    clear hW8
    have o0 := HX8.out.2.1.at_ 0 _ rfl
    have o1 := HX8.out.2.1.at_ 1 _ rfl
    have o2 := HX8.out.2.1.at_ 2 _ rfl
    have o3 := HX8.out.2.1.at_ 3 _ rfl
    have p0 := HX8.out.2.2.1.at_ 0 _ rfl
    have p1 := HX8.out.2.2.1.at_ 1 _ rfl
    have p2 := HX8.out.2.2.1.at_ 2 _ rfl
    have p3 := HX8.out.2.2.1.at_ 3 _ rfl
    have q0 := HX8.out.2.2.2.at_ 0 _ rfl
    have q1 := HX8.out.2.2.2.at_ 1 _ rfl
    have q2 := HX8.out.2.2.2.at_ 2 _ rfl
    have q3 := HX8.out.2.2.2.at_ 3 _ rfl
    have HT := Lib.hid HX8.out.1
    go_upto_region 11 with fail
    rw [← HE8.out]
    go_wp2_with fail
    clear o0 o1 o2 o3 p0 p1 p2 p3 q0 q1 q2 q3
    refine (draw_turn _ _ _ _ (HR.out.below HT.out HT.out.size)).mono ?_
    rintro e w10 ⟨x0, y0, x1, y1, x2, y2, rfl, hb⟩
    have HT10 := Lib.hid (bthen HT.out hb HT.out.size)
    clear hb
    obtain ⟨T, hTe⟩ : ∃ T, turnN x0 y0 x1 y1 x2 y2 = T := ⟨_, rfl⟩
    have hT := turn_bd x0 y0 x1 y1 x2 y2
    rw [hTe] at hT
    obtain ⟨hT1, hT2⟩ := hT
    rcases hk1 : turnK x0 y0 x1 y1 x2 y2 with _ | _
    · have HK2 := Lib.hid (And.intro hTe hk1)
      clear hTe hk1
      go_wp2_with fail
      refine (turn_impl_at _ _ _ _ _ _ _ _ _ HK2.out.1 HK2.out.2).mono ?_
      rintro e w11 ⟨rfl, hb⟩
      have HX11 := Lib.hid (And.intro (bthen HT10.out (box3 hb).1 HT10.out.size) (box3 hb).2)
      clear hb
      have c0 := HX11.out.2.1.at_ 0 _ rfl
      have c1 := HX11.out.2.1.at_ 1 _ rfl
      have c2 := HX11.out.2.2.1.at_ 0 _ rfl
      have c3 := HX11.out.2.2.1.at_ 1 _ rfl
      have c4 := HX11.out.2.2.2.at_ 0 _ rfl
      have c5 := HX11.out.2.2.2.at_ 1 _ rfl
      go_wp2_with fail
      refine (turn_spec_at _ _ _ _ _ _ _ _ _ HK2.out.1 HK2.out.2).mono ?_
      rintro e w12 ⟨rfl, hb⟩
      have HX12 := Lib.hid (And.intro (bthen HX11.out.1 hb HX11.out.1.size) (And.intro (HX11.out.2.1.next hb) (And.intro (HX11.out.2.2.1.next hb) (HX11.out.2.2.2.next hb))))
      have HT12 := Lib.hid HX12.out.1
      clear hb c0 c1 c2 c3 c4 c5
      go_wp2_with fail
      refine (draw_len _ _ _ _ (HR.out.below HT12.out HT12.out.size)).mono ?_
      rintro e w20 ⟨p0, q0, p1, q1, rfl, hb⟩
      have HT20 := Lib.hid (bthen HT12.out hb HT12.out.size)
      clear hb
      obtain ⟨L, hL⟩ : ∃ L, lenN p0 q0 p1 q1 = L := ⟨_, rfl⟩
      obtain ⟨Q, hQ⟩ : ∃ Q, sqN p0 q0 p1 q1 = Q := ⟨_, rfl⟩
      rcases hk2 : sqK p0 q0 p1 q1 with _ | _
      · have HL := Lib.hid (And.intro hL (And.intro hQ hk2))
        clear hL hQ hk2
        go_wp2_with fail
        refine (len_impl_at _ _ _ _ _ _ _ HL.out.1 HL.out.2.2).mono ?_
        rintro e w21 ⟨rfl, hb⟩
        have HX21 := Lib.hid (And.intro (bthen HT20.out (box2 hb).1 HT20.out.size) (box2 hb).2)
        clear hb
        have c0 := HX21.out.2.1.at_ 0 _ rfl
        have c1 := HX21.out.2.1.at_ 1 _ rfl
        have c2 := HX21.out.2.2.at_ 0 _ rfl
        have c3 := HX21.out.2.2.at_ 1 _ rfl
        go_wp2_with fail
        refine (len_spec_at _ _ _ _ _ _ _ HL.out.1 HL.out.2.2).mono ?_
        rintro e w22 ⟨rfl, hb⟩
        have HT22 := Lib.hid (bthen HX21.out.1 hb HX21.out.1.size)
        clear hb c0 c1 c2 c3
        go_wp2_with fail
        go_ret
        exact ⟨rfl, HT22.out⟩
      · have HL := Lib.hid (And.intro hL (And.intro hQ hk2))
        have HB := len_bds hk2 hL hQ
        clear hL hQ hk2
        obtain ⟨hb0, hb1, hb2, hb3, hb4, hb5⟩ := HB
        go_wp2_with fail
        refine (len_impl_at _ _ _ _ _ _ _ HL.out.1 HL.out.2.2).mono ?_
        rintro e w21 ⟨rfl, hb⟩
        have HX21 := Lib.hid (And.intro (bthen HT20.out (box2 hb).1 HT20.out.size) (box2 hb).2)
        clear hb
        have c0 := HX21.out.2.1.at_ 0 _ rfl
        have c1 := HX21.out.2.1.at_ 1 _ rfl
        have c2 := HX21.out.2.2.at_ 0 _ rfl
        have c3 := HX21.out.2.2.at_ 1 _ rfl
        go_wp2_with fail
        refine (len_spec_at _ _ _ _ _ _ _ HL.out.1 HL.out.2.2).mono ?_
        rintro e w22 ⟨rfl, hb⟩
        have HX22 := Lib.hid (And.intro (bthen HX21.out.1 hb HX21.out.1.size) (And.intro (HX21.out.2.1.next hb) (HX21.out.2.2.next hb)))
        clear hb c0 c1 c2 c3
        have c0 := HX22.out.2.1.at_ 0 _ rfl
        have c1 := HX22.out.2.1.at_ 1 _ rfl
        have c2 := HX22.out.2.2.at_ 0 _ rfl
        have c3 := HX22.out.2.2.at_ 1 _ rfl
        go_wp2_with fail
        refine (sqb_impl_at _ _ _ _ _ _ _ HL.out.2.1 HL.out.2.2).mono ?_
        rintro e w23 ⟨rfl, hb⟩
        have HT23 := Lib.hid (bthen HX22.out.1 hb HX22.out.1.size)
        clear hb c0 c1 c2 c3
        go_wp2_with fail
        go_ret
        exact ⟨rfl, HT23.out⟩
    · have HK2 := Lib.hid (And.intro hTe hk1)
      clear hTe hk1
      go_wp2_with fail
      refine (turn_impl_at _ _ _ _ _ _ _ _ _ HK2.out.1 HK2.out.2).mono ?_
      rintro e w11 ⟨rfl, hb⟩
      have HX11 := Lib.hid (And.intro (bthen HT10.out (box3 hb).1 HT10.out.size) (box3 hb).2)
      clear hb
      have c0 := HX11.out.2.1.at_ 0 _ rfl
      have c1 := HX11.out.2.1.at_ 1 _ rfl
      have c2 := HX11.out.2.2.1.at_ 0 _ rfl
      have c3 := HX11.out.2.2.1.at_ 1 _ rfl
      have c4 := HX11.out.2.2.2.at_ 0 _ rfl
      have c5 := HX11.out.2.2.2.at_ 1 _ rfl
      go_wp2_with fail
      refine (turn_spec_at _ _ _ _ _ _ _ _ _ HK2.out.1 HK2.out.2).mono ?_
      rintro e w12 ⟨rfl, hb⟩
      have HX12 := Lib.hid (And.intro (bthen HX11.out.1 hb HX11.out.1.size) (And.intro (HX11.out.2.1.next hb) (And.intro (HX11.out.2.2.1.next hb) (HX11.out.2.2.2.next hb))))
      have HT12 := Lib.hid HX12.out.1
      clear hb c0 c1 c2 c3 c4 c5
      have c0 := HX12.out.2.1.at_ 0 _ rfl
      have c1 := HX12.out.2.1.at_ 1 _ rfl
      have c2 := HX12.out.2.2.1.at_ 0 _ rfl
      have c3 := HX12.out.2.2.1.at_ 1 _ rfl
      have c4 := HX12.out.2.2.2.at_ 0 _ rfl
      have c5 := HX12.out.2.2.2.at_ 1 _ rfl
      go_wp2_with fail
      refine (turn_impl_at _ _ _ _ _ _ (-T) true _ (by rw [(turn_back _ _ _ _ _ _).1, HK2.out.1]) (by rw [(turn_back _ _ _ _ _ _).2, HK2.out.2])).mono ?_
      rintro e w13 ⟨rfl, hb⟩
      have HX13 := Lib.hid (And.intro (bthen HX12.out.1 hb HX12.out.1.size) (And.intro (HX12.out.2.1.next hb) (And.intro (HX12.out.2.2.1.next hb) (HX12.out.2.2.2.next hb))))
      clear hb c0 c1 c2 c3 c4 c5
      have c0 := HX13.out.2.1.at_ 0 _ rfl
      have c1 := HX13.out.2.1.at_ 1 _ rfl
      have c2 := HX13.out.2.2.1.at_ 0 _ rfl
      have c3 := HX13.out.2.2.1.at_ 1 _ rfl
      have c4 := HX13.out.2.2.2.at_ 0 _ rfl
      have c5 := HX13.out.2.2.2.at_ 1 _ rfl
      go_wp2_with fail
      refine (turn_impl_at _ _ _ _ _ _ T true _ (by rw [(turn_next _ _ _ _ _ _).1, HK2.out.1]) (by rw [(turn_next _ _ _ _ _ _).2, HK2.out.2])).mono ?_
      rintro e w14 ⟨rfl, hb⟩
      have HT14 := Lib.hid (bthen HX13.out.1 hb HX13.out.1.size)
      clear hb c0 c1 c2 c3 c4 c5
      go_wp2_with fail
      refine (draw_len _ _ _ _ (HR.out.below HT14.out HT14.out.size)).mono ?_
      rintro e w20 ⟨p0, q0, p1, q1, rfl, hb⟩
      have HT20 := Lib.hid (bthen HT14.out hb HT14.out.size)
      clear hb
      obtain ⟨L, hL⟩ : ∃ L, lenN p0 q0 p1 q1 = L := ⟨_, rfl⟩
      obtain ⟨Q, hQ⟩ : ∃ Q, sqN p0 q0 p1 q1 = Q := ⟨_, rfl⟩
      rcases hk2 : sqK p0 q0 p1 q1 with _ | _
      · have HL := Lib.hid (And.intro hL (And.intro hQ hk2))
        clear hL hQ hk2
        go_wp2_with fail
        refine (len_impl_at _ _ _ _ _ _ _ HL.out.1 HL.out.2.2).mono ?_
        rintro e w21 ⟨rfl, hb⟩
        have HX21 := Lib.hid (And.intro (bthen HT20.out (box2 hb).1 HT20.out.size) (box2 hb).2)
        clear hb
        have c0 := HX21.out.2.1.at_ 0 _ rfl
        have c1 := HX21.out.2.1.at_ 1 _ rfl
        have c2 := HX21.out.2.2.at_ 0 _ rfl
        have c3 := HX21.out.2.2.at_ 1 _ rfl
        go_wp2_with fail
        refine (len_spec_at _ _ _ _ _ _ _ HL.out.1 HL.out.2.2).mono ?_
        rintro e w22 ⟨rfl, hb⟩
        have HT22 := Lib.hid (bthen HX21.out.1 hb HX21.out.1.size)
        clear hb c0 c1 c2 c3
        go_wp2_with fail
        go_ret
        exact ⟨rfl, HT22.out⟩
      · have HL := Lib.hid (And.intro hL (And.intro hQ hk2))
        have HB := len_bds hk2 hL hQ
        clear hL hQ hk2
        obtain ⟨hb0, hb1, hb2, hb3, hb4, hb5⟩ := HB
        go_wp2_with fail
        refine (len_impl_at _ _ _ _ _ _ _ HL.out.1 HL.out.2.2).mono ?_
        rintro e w21 ⟨rfl, hb⟩
        have HX21 := Lib.hid (And.intro (bthen HT20.out (box2 hb).1 HT20.out.size) (box2 hb).2)
        clear hb
        have c0 := HX21.out.2.1.at_ 0 _ rfl
        have c1 := HX21.out.2.1.at_ 1 _ rfl
        have c2 := HX21.out.2.2.at_ 0 _ rfl
        have c3 := HX21.out.2.2.at_ 1 _ rfl
        go_wp2_with fail
        refine (len_spec_at _ _ _ _ _ _ _ HL.out.1 HL.out.2.2).mono ?_
        rintro e w22 ⟨rfl, hb⟩
        have HX22 := Lib.hid (And.intro (bthen HX21.out.1 hb HX21.out.1.size) (And.intro (HX21.out.2.1.next hb) (HX21.out.2.2.next hb)))
        clear hb c0 c1 c2 c3
        have c0 := HX22.out.2.1.at_ 0 _ rfl
        have c1 := HX22.out.2.1.at_ 1 _ rfl
        have c2 := HX22.out.2.2.at_ 0 _ rfl
        have c3 := HX22.out.2.2.at_ 1 _ rfl
        go_wp2_with fail
        refine (sqb_impl_at _ _ _ _ _ _ _ HL.out.2.1 HL.out.2.2).mono ?_
        rintro e w23 ⟨rfl, hb⟩
        have HT23 := Lib.hid (bthen HX22.out.1 hb HX22.out.1.size)
        clear hb c0 c1 c2 c3
        go_wp2_with fail
        go_ret
        exact ⟨rfl, HT23.out⟩
/-! ### The row's step. -/
set_option maxRecDepth 100000 in
theorem lifted (os : Os) (started : os.Started) (H : Type) (enc : TypeId × Value → H) :
    ReturnsInHanded {} Try.checked os 4 .any (Rows.fnBoxesSpec.pre6 enc Try.prog Try.f4 Rows.fnBoxesRow.domain false) (Rows.fnBoxesSpec.post enc Try.prog Try.f4 false true false false) := by
  refine returnsInHanded_of_change (C := Try.checked) own started (by kernel_rfl) Try.func4
    (ChangeSpec.witness6 (enc := enc) (C := Try.checked) false ⟨#[], #[.slice none 0 0], []⟩ 8 (by kernel_rfl) (by kernel_rfl) (by kernel_rfl) (by kernel_rfl)) ?_
  intro W base args ds gs before hval0 hW hcnd _
  have hval : ∀ (j : Nat) t v, Try.f4.params[j]? = some t → args[j]? = some v → Value.okWide Try.prog W .any base t v := hval0
  have hW' := hW
  obtain ⟨p, q, hA0, hV, rfl, hfz, hnd⟩ := hW
  have hA : DataW.TrodAll enc Try.prog W 0 (fun _ => true) true Try.f4.params.toList args.toList ds p := hA0
  rw [Try.params4] at hA hval
  obtain ⟨v0, vs0, d0, ds0, p0, q0, hargs, rfl, rfl, h0, r0⟩ := trodAll_cons hA
  obtain ⟨rfl, rfl, rfl⟩ := trodAll_nil r0
  obtain rfl : args = #[v0] := by cases args; simp_all
  obtain ⟨rfl, rfl⟩ := trodVars_none hV
  have k0 := h0
  have lt0 : ∀ x ∈ p0, x.block < W.heap.size := by obtain ⟨m, hm⟩ := k0; exact DataW.trod_lt m _ _ _ hm
  obtain ⟨A0, n0, c0, rfl⟩ := okWide_slice Try.underlying22 (hval 0 22 v0 rfl rfl)
  obtain ⟨m0, w0⟩ := open_code h0
  clear hA0 hval0
  refine (walk A0 n0 c0 W m0 w0).mono fun e W1 ⟨he, bel⟩ => ?_
  subst he
  exact ⟨_, rfl, _, _, _, [], _, [], hW', trodAll_mk1 (shut_bool Try.underlying4 _), (trodAll_cons_mk (Below.trod laidOut (by kernel_rfl) (of_decide_eq_true (by kernel_rfl)) k0 bel lt0) trodAll_mk0), rfl, bel.frame _, fun h => by cases h⟩

/-- The statement. -/
theorem proved : Rows.FnBoxesSaid :=
  OpenClaim.holds_of_wide 4 Try.f4 rfl rfl rfl rfl rfl rfl rfl ⟨rfl, rfl, rfl, rfl, rfl⟩ rfl rfl rfl rfl rfl (by kernel_rfl) Try.func4 (by kernel_rfl)
    (of_decide_eq_true (by kernel_rfl)) (by unfold Func.isWrapper; first | (rw [if_pos (by decide +kernel)]; kernel_rfl) | (rw [if_neg (by decide +kernel)]; exact ⟨rfl, rfl⟩))
    (fun os started H enc _ => lifted os started H enc)
#print axioms proved
end Go.Proofs.Ytjnimedbjmihaaa.fnBoxes
