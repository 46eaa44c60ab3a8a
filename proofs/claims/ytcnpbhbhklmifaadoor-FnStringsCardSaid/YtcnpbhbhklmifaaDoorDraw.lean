/-
  Contracts of spec.DrawFormatInt, spec.DrawParseInt, spec.DrawAppendChecksum, laws.vAt, laws.vBig over this translation. Conditions: stated at each theorem.
-/
import Derived.Test.YtcnpbhbhklmifaaDoorCur
namespace Go.Proofs.YtcnpbhbhklmifaaDoor
open Go.RowKit Go.Sort

def NextPost2 (B : Nat) (A : Option Addr) (n c g k m : Nat) (w : World) (e : Ending) (w' : World) : Prop :=
  ∃ v : Nat, v < m ∧ e = .returned (.int .i64 v) ∧ Cur B A n c g (k + 1 + 1) w' ∧ w.grownBy w' (some g)
theorem pick_big (B : Nat) (A : Option Addr) (n c g k m : Nat) (w : World) (h : Cur B A n c g k w) (hk : k < 10000) (h1 : 200 < m) (h2 : m ≤ 2000) :
    Calls Tryd.prog 22 #[.pointer (some ⟨g, 0, none⟩), .int .i64 m] w (NextPost2 B A n c g k m w) := by
  have HN := Lib.hid (next_any B A n c g k w h (by omega))
  clear h
  go_enter Tryd.func22, Tryd.ntmps22
  go_wp2_with fail
  refine HN.out.mono ?_
  rintro e w1 ⟨v, hv, rfl, hc, hg⟩
  have HN2 := Lib.hid (next_any B A n c g (k + 1) w1 hc (by omega))
  have HG := Lib.hid hg
  clear hc hg
  go_wp2_with fail
  refine HN2.out.mono ?_
  rintro e w2 ⟨v2, hv2, rfl, hc2, hg2⟩
  have HC2 := Lib.hid hc2
  have HG2 := Lib.hid hg2
  clear hc2 hg2
  go_wp2
  go_ret
  exact ⟨(v * 256 + v2) % m, Nat.mod_lt _ (by omega), by simp only [Int.natCast_emod, Int.natCast_add, Int.natCast_mul]; rfl, HC2.out, grown_trans HG.out HG2.out⟩

/-- The cells of block b hold the numbers xs. -/
def CellsI (w : World) (b : Nat) (xs : List Int) : Prop := ∀ j x, xs[j]? = some x → w.cell? ⟨b, j, none⟩ = some (.int .i64 x)
def NumPost (p : Int → Prop) (B : Nat) (A : Option Addr) (n c g k : Nat) (w : World) (e : Ending) (w' : World) : Prop :=
  ∃ x, p x ∧ e = .returned (.int .i64 x) ∧ Cur B A n c g (k + 1) w' ∧ w.grownBy w' (some g)
theorem among_any (p : Int → Prop) (B : Nat) (A : Option Addr) (n c g k b cap : Nat) (xs : List Int) (w : World) (h : Cur B A n c g k w) (hk : k < 1000000) (h1 : 1 < xs.length) (h2 : xs.length ≤ 200)
    (hc : CellsI w b xs) (hb : b < w.heap.size) (hbg : b ≠ g) (hp : ∀ x ∈ xs, p x) :
    Calls Tryd.prog 21 #[.pointer (some ⟨g, 0, none⟩), .slice (some ⟨b, 0, none⟩) xs.length cap] w (NumPost p B A n c g k w) := by
  have HN := Lib.hid (pick_any B A n c g k xs.length w h hk h1 h2)
  have HP := Lib.hid hp
  have HC0 := Lib.hid hc
  clear h hp hc
  go_enter Tryd.func21, Tryd.ntmps21
  go_wp2_with (go_at_call 22; refine HN.out.mono ?_; rintro e w' ⟨v, hv, rfl, hc, hg⟩; have HC := Lib.hid hc; have HG := Lib.hid hg; have hcell := (World.cell?_of_block (a := ⟨b, v, none⟩) (hg.block b hb (fun e => hbg (Option.some.inj e)))).trans (HC0.out v _ (List.getElem?_eq_getElem hv)); clear hc hg)
  go_ret
  exact ⟨xs[v], HP.out _ (List.getElem_mem hv), rfl, HC.out, HG.out⟩
theorem among_made (p : Int → Prop) (B : Nat) (A : Option Addr) (n c g k cap : Nat) (xs : List Int) (w : World) (h : Cur B A n c g k w) (hk : k < 1000000) (h1 : 1 < xs.length) (h2 : xs.length ≤ 200) (hp : ∀ x ∈ xs, p x) :
    Calls Tryd.prog 21 #[.pointer (some ⟨g, 0, none⟩), .slice (some ⟨w.heap.size, 0, none⟩) xs.length cap] (w.alloc (.cells (xs.map (Value.int .i64)).toArray 3)) (NumPost p B A n c g k w) := by
  have hlt := h.lt
  refine (among_any p B A n c g k w.heap.size cap xs _ (h.alloc _) hk h1 h2 (fun j x hx => by rw [World.cell?_alloc_new]; simp [hx]) (by simp) (by omega) hp).mono ?_
  rintro e w' ⟨x, hx, he, hc, hg⟩
  exact ⟨x, hx, he, hc, grown_trans (World.grownBy_alloc _ _ _) hg⟩

/-! ### The draws -/
def Million (x : Int) : Prop := -1000000 ≤ x ∧ x ≤ 1000000
def FmtPost (w : World) (e : Ending) (w' : World) : Prop := ∃ x, Million x ∧ e = .returned (.int .i64 x) ∧ Below w.heap.size w w'
set_option maxHeartbeats 800000 in
theorem draw_fmt (A : Option Addr) (n c : Nat) (w : World) (h : CodeRow w.heap.size A n w) : Calls Tryd.prog 9 #[.slice A n c] w (FmtPost w) := by
  have HC0 := Lib.hid (cur_new w A n c 37 h)
  clear h
  go_enter Tryd.func9, Tryd.ntmps9
  go_wp2_with fail
  refine (pick_big _ _ _ _ _ _ 1000 _ HC0.out (by omega) (by omega) (by omega)).mono ?_
  rintro e w1 ⟨v, hv, rfl, hc1, hg1⟩
  have HC1 := Lib.hid hc1
  have HB1 := Lib.hid (below_of ((Below.refl w.heap.size w).alloc (Nat.le_refl _) _) hg1 (by simp))
  clear hc1 hg1
  go_wp2_with fail
  refine (among_made Million _ _ _ _ _ _ 9 [0, 1, -1, 10, 999999, -999999, 1000000, -1000000, (v : Int) - 500] _ HC1.out (by omega) (by simp) (by simp) (by
    intro x hx
    simp only [List.mem_cons, List.not_mem_nil, or_false] at hx
    unfold Million
    rcases hx with rfl | rfl | rfl | rfl | rfl | rfl | rfl | rfl | rfl <;> omega)).mono ?_
  rintro e w2 ⟨t, ht, rfl, hc2, hg2⟩
  have HB2 := Lib.hid (below_of HB1.out hg2 HB1.out.size)
  clear hc2 hg2
  go_wp2
  go_ret
  exact ⟨t, ht, rfl, HB2.out⟩
def Mild (x : ByteArray) : Prop := x.size ≤ 1048576
def StrPost (w : World) (e : Ending) (w' : World) : Prop := ∃ x, Mild x ∧ e = .returned (.string x) ∧ Below w.heap.size w w'
theorem itoa_short (n : Int) (h0 : -1000 ≤ n) (h1 : n ≤ 1000) : Mild ⟨(Lib.itoa n).toArray⟩ := by
  unfold Mild
  rw [numB_size]
  by_cases hn : n < 0
  · obtain ⟨u, rfl⟩ : ∃ u : Nat, n = -(u : Int) := ⟨n.natAbs, by omega⟩
    have e : Lib.itoa (-(u : Int)) = 45 :: Lib.decDigits u := by
      unfold Lib.itoa
      rw [if_pos hn]
      congr 2
      omega
    rw [e]
    have := dlen_le u
    simp only [List.length_cons]
    omega
  · obtain ⟨u, rfl⟩ : ∃ u : Nat, n = (u : Int) := ⟨n.toNat, by omega⟩
    rw [Lib.itoa_nonneg]
    have := dlen_le u
    omega
set_option maxHeartbeats 800000 in
theorem draw_parse (A : Option Addr) (n c : Nat) (w : World) (h : CodeRow w.heap.size A n w) : Calls Tryd.prog 12 #[.slice A n c] w (StrPost w) := by
  have HC0 := Lib.hid (cur_new w A n c 37 h)
  clear h
  go_enter Tryd.func12, Tryd.ntmps12
  go_wp2_with fail
  refine (one_any _ _ _ _ _ _ 2 _ HC0.out (by omega) (by omega) (by omega)).mono ?_
  rintro e w1 ⟨b, rfl, hc1, hg1⟩
  have HC1 := Lib.hid hc1
  have HB1 := Lib.hid (below_of ((Below.refl w.heap.size w).alloc (Nat.le_refl _) _) hg1 (by simp))
  clear hc1 hg1
  cases b
  · go_wp2_with fail
    refine (pick_big _ _ _ _ _ _ 2000 _ HC1.out (by omega) (by omega) (by omega)).mono ?_
    rintro e w2 ⟨v, hv, rfl, hc2, hg2⟩
    have HB2 := Lib.hid (below_of HB1.out hg2 HB1.out.size)
    clear hc2 hg2
    go_wp2_with fail
    refine (num_any ((v : Int) - 1000) _ (by omega) (by omega)).mono ?_
    rintro e w3 ⟨rfl, k, rfl⟩
    have HM := Lib.hid (itoa_short ((v : Int) - 1000) (by omega) (by omega))
    have HB3 := Lib.hid (HB2.out.trans ((below_drewN w2 k).mono HB2.out.size))
    go_wp2
    go_ret
    exact ⟨_, HM.out, rfl, HB3.out⟩
  · go_wp2_with fail
    refine (of_made Mild _ _ _ _ _ _ 11 [⟨#[]⟩, ⟨#[45]⟩, ⟨#[45, 48]⟩, ⟨#[48, 48]⟩, ⟨#[48, 49]⟩, ⟨#[45, 45, 49]⟩, ⟨#[49, 120]⟩, ⟨#[57, 57, 57, 57, 57, 57]⟩, ⟨#[49, 48, 48, 48, 48, 48, 48]⟩, ⟨#[45, 57, 57, 57, 57, 57, 57]⟩, ⟨#[49, 56, 52, 52, 54, 55, 52, 52, 48, 55, 51, 55, 48, 57, 53, 53, 49, 54, 49, 55]⟩] _ HC1.out (by omega) (by decide) (by decide) (by
      intro x hx
      simp only [List.mem_cons, List.not_mem_nil, or_false] at hx
      unfold Mild
      rcases hx with rfl | rfl | rfl | rfl | rfl | rfl | rfl | rfl | rfl | rfl | rfl <;> decide)).mono ?_
    rintro e w2 ⟨t, ht, rfl, hc2, hg2⟩
    have HB2 := Lib.hid (below_of HB1.out hg2 HB1.out.size)
    clear hc2 hg2
    go_wp2
    go_ret
    exact ⟨_, ht, rfl, HB2.out⟩
set_option maxHeartbeats 800000 in
theorem draw_app (A : Option Addr) (n c : Nat) (w : World) (h : CodeRow w.heap.size A n w) : Calls Tryd.prog 15 #[.slice A n c] w (StrPost w) := by
  obtain ⟨i5, gi, gz0, gz1, gz2⟩ := info_parts info5
  have HC0 := Lib.hid (cur_new w A n c 37 h)
  clear h
  go_enter Tryd.func15, Tryd.ntmps15
  go_wp2_with fail
  refine (one_any _ _ _ _ _ _ 20 _ HC0.out (by omega) (by omega) (by omega)).mono ?_
  rintro e w1 ⟨b, rfl, hc1, hg1⟩
  have HC1 := Lib.hid hc1
  have HB1 := Lib.hid (below_of ((Below.refl w.heap.size w).alloc (Nat.le_refl _) _) hg1 (by simp))
  clear hc1 hg1
  cases b
  · go_wp2_with fail
    refine (any1_any _ _ _ _ _ _ _ HC1.out (by omega)).mono ?_
    rintro e w2 ⟨t, ht, rfl, hc2, hg2⟩
    have HB2 := Lib.hid (below_of HB1.out hg2 HB1.out.size)
    have HM := Lib.hid (show Mild t from by unfold Short at ht; unfold Mild; omega)
    clear hc2 hg2 ht
    go_wp2
    go_ret
    exact ⟨_, HM.out, rfl, HB2.out⟩
  · go_wp2_with fail
    refine (pick_any _ _ _ _ _ _ 10 _ HC1.out (by omega) (by omega) (by omega)).mono ?_
    rintro e w3 ⟨z, hz, rfl, hc3, hg3⟩
    have HB3 := Lib.hid (below_of HB1.out hg3 HB1.out.size)
    clear hc3 hg3
    go_wp2_with (at_make; refine wpList_make_full _ rfl _ _ 22 rfl w.heap.size 5 i5 (.int .u8 0) 1 Tryd.underlying22 gi gz0 gz1 .i64 .i64 _ _ (3990 + z) rfl rfl rfl rfl (by rw [gz2]; omega) (by unfold maxLen; omega) HB3.out.size ?_; intro w4 hown4 hgrow4; obtain ⟨zt, hzt, hconv⟩ := zeros_made hown4; have HZ := Lib.hid hzt; have HB4 := Lib.hid (HB3.out.grown hgrow4 HB3.out.size (fun i e => by cases e)); clear hown4 hgrow4 hzt)
    go_ret
    exact ⟨zt, by have := HZ.out; unfold Mild; omega, rfl, HB4.out⟩

/-! ### vBig, vAt -/
theorem big_yes (A : Option Addr) (n c : Nat) (w : World) (h : (65536 : Int) < n) : Calls Tryd.prog 8 #[.slice A n c] w fun e w' => e = .returned (.bool true) ∧ w = w' := by
  go_enter Tryd.func8, Tryd.ntmps8
  go_wp2
  go_ret
  exact ⟨by simp, rfl⟩
theorem big_no (A : Option Addr) (n c : Nat) (w : World) (h : ¬ (65536 : Int) < n) : Calls Tryd.prog 8 #[.slice A n c] w fun e w' => e = .returned (.bool false) ∧ w = w' := by
  go_enter Tryd.func8, Tryd.ntmps8
  go_wp2
  go_ret
  exact ⟨by simp, rfl⟩
def AtPost (w : World) (e : Ending) (w' : World) : Prop := ∃ v : Nat, v < 256 ∧ e = .returned (.int .i64 v) ∧ w = w'
theorem at_any (A : Option Addr) (n c i : Nat) (B : Nat) (w : World) (h : CodeRow B A n w) (hn : n ≤ 65536) (hi : i ≤ 1000) : Calls Tryd.prog 19 #[.slice A n c, .int .i64 i] w (AtPost w) := by
  by_cases hlt : i < n
  · obtain ⟨a, b, rfl, _, hb, hcell⟩ := h i hlt
    clear h
    go_enter Tryd.func19, Tryd.ntmps19
    go_wp2
    go_ret
    exact ⟨b, hb, rfl, rfl⟩
  · clear h
    go_enter Tryd.func19, Tryd.ntmps19
    go_wp2
    go_ret
    exact ⟨(i * 7 + n) % 256, Nat.mod_lt _ (by omega), by simp only [Int.natCast_emod, Int.natCast_add, Int.natCast_mul]; rfl, rfl⟩
theorem CodeRow.below {B B' : Nat} {A : Option Addr} {n : Nat} {w w' : World} (h : CodeRow B A n w) (hb : Below B w w') (hB : B ≤ B') : CodeRow B' A n w' := by
  intro j hj
  obtain ⟨a, b, ha, hab, h2, hc⟩ := h j hj
  have hblk : (a.add j).block = a.block := by unfold Addr.add; split <;> rfl
  exact ⟨a, b, ha, by omega, h2, (hb.cell (by rw [hblk]; exact hab)).trans hc⟩
end Go.Proofs.YtcnpbhbhklmifaaDoor
