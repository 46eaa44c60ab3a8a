/-
  A track that is drawn: contracts of spec.l1Cur.track, limit12 over this translation. Conditions: stated at each theorem.
-/
import Derived.Test.YtjekmmekkfmplaaEw
import Derived.Test.YtjekmmekkfmplaaRa
import Derived.Deep.DeepCutAuto
namespace Go.Proofs.Ytjekmmekkfmplaa
open Go.RowKit Go.Sort
set_option linter.unusedVariables false

/-- All numbers of a row lie within what a drawn track holds. -/
def ValE (P : List Int) : Prop := ∀ x ∈ P, -1001 ≤ x ∧ x ≤ 20001
theorem val_nil : ValE [] := fun x h => by cases h
theorem val_snoc {P : List Int} {x : Int} (h : ValE P) (hx : -1001 ≤ x ∧ x ≤ 20001) : ValE (P ++ [x]) := fun y hy => by
  rcases List.mem_append.1 hy with h1 | h1
  · exact h y h1
  · rw [List.mem_singleton.1 h1]; exact hx
theorem val_take {P : List Int} (h : ValE P) (k : Nat) : ValE (P.take k) := fun y hy => h y (List.mem_of_mem_take hy)
theorem val_set {P : List Int} {x : Int} (h : ValE P) (hx : -1001 ≤ x ∧ x ≤ 20001) (k : Nat) : ValE (P.set k x) := fun y hy => by
  rcases List.mem_or_eq_of_mem_set hy with h1 | h1
  · exact h y h1
  · rw [h1]; exact hx
theorem val_at {P : List Int} (h : ValE P) {k : Nat} (hk : k < P.length) : -1001 ≤ P.getD k 0 ∧ P.getD k 0 ≤ 20001 := by
  rw [List.getD_eq_getElem?_getD, List.getElem?_eq_getElem hk]
  exact h _ (List.getElem_mem hk)
theorem ifun_grown {w w' : World} {lo hi g n : Nat} {A : Option Addr} {f : Nat → Int} (h : IFun w lo hi A n f) (hg : w.grownBy w' (some g)) (hl : g < lo) (hh : hi ≤ w.heap.size) : IFun w' lo hi A n f := fun k hk => by
  obtain ⟨b, hA, h1, h2, h3, h4⟩ := h k hk
  have hb := hg.block b (by omega) (fun e => by have := Option.some.inj e; omega)
  exact ⟨b, hA, h1, h2, (World.cell?_of_block (a := ⟨b, k, none⟩) hb).trans h3, (World.frozen?_of_block (a := ⟨b, k, none⟩) hb).trans h4⟩
theorem own_cap12 {W : World} {B T z n g C : Nat} {xs : List Value} (h : W.ownsRow B T z (.slice (some ⟨g, 0, none⟩) n C) n xs) : n ≤ C ∧ C ≤ maxLen := by
  rcases h.2 with ⟨e, _⟩ | ⟨g', cap, cur, e, _, _, h1, h2, _⟩
  · cases e
  · injection e with e1 e2 e3
    subst e3
    exact ⟨h1, h2⟩
def lenOf : Value → Nat
  | .slice _ n _ => n
  | _ => 0
/-- What track hands back. -/
theorem own_capE {W : World} {B T z g n c : Nat} {xs : List Value} (h : W.ownsRow B T z (.slice (some ⟨g, 0, none⟩) n c) n xs) : n ≤ c := by
  rcases h.2 with ⟨e, _⟩ | ⟨g', cap, cur, e, hb, hg, h1, h2, h3, h4⟩
  · cases e
  · injection e with e1 e2 e3
    subst e3
    exact h1
def TrackAny (B : Nat) (A : Option Addr) (n c g k : Nat) (w : World) (e : Ending) (w' : World) : Prop :=
  ∃ (P : List Int) (gp cp k' : Nat), 2 ≤ P.length ∧ P.length ≤ 31 ∧ (k' ≤ k + 200 ∧ P.length ≤ cp) ∧ w.heap.size ≤ gp ∧ gp < w'.heap.size ∧ e = .returned (.slice (some ⟨gp, 0, none⟩) P.length cp) ∧ ValE P ∧ IFun w' w.heap.size w'.heap.size (some ⟨gp, 0, none⟩) P.length (fun j => P.getD j 0) ∧ Cur B A n c g k' w' ∧ w.grownBy w' (some g)
theorem trackA {B : Nat} {A : Option Addr} {n c g k k' gp cp : Nat} {w w' : World} {P : List Int} (h2 : 2 ≤ P.length) (h31 : P.length ≤ 31) (hk : k' ≤ k + 200) (hv : ValE P) (ho : w'.ownsRow w.heap.size 3 1 (.slice (some ⟨gp, 0, none⟩) P.length cp) P.length (ivs P)) (hc : Cur B A n c g k' w') (hg : w.grownBy w' (some g)) :
    TrackAny B A n c g k w (.returned (.slice (some ⟨gp, 0, none⟩) P.length cp)) w' :=
  ⟨P, gp, cp, k', h2, h31, ⟨hk, own_capE ho⟩, (ho.lt gp rfl).1, (ho.lt gp rfl).2, rfl, hv, ifun_of_own ho, hc, hg⟩
theorem trackB {B : Nat} {A : Option Addr} {n c g k k' gp cp : Nat} {w w' : World} {P : List Int} (h2 : 3 ≤ P.length) (hk : k' ≤ k + 200) (hv : ValE P) (ho : w'.ownsRow w.heap.size 3 1 (.slice (some ⟨gp, 0, none⟩) P.length cp) P.length (ivs P)) (hc : Cur B A n c g k' w') (hg : w.grownBy w' (some g)) :
    TrackAny B A n c g k w (.returned (.slice (some ⟨gp, 0, none⟩) 2 cp)) w' := by
  have hl : (P.take 2).length = 2 := by rw [List.length_take]; omega
  refine ⟨P.take 2, gp, cp, k', by omega, by omega, ⟨hk, by rw [hl]; have := own_capE ho; omega⟩, (ho.lt gp rfl).1, (ho.lt gp rfl).2, by rw [hl], val_take hv 2, fun j hj => ?_, hc, hg⟩
  obtain ⟨b, hA, h1, h2', h3, h4⟩ := ifun_of_own ho j (by omega)
  refine ⟨b, hA, h1, h2', h3.trans ?_, h4⟩
  dsimp only
  rw [List.getD_eq_getElem?_getD, List.getD_eq_getElem?_getD, List.getElem?_take, if_pos (by omega)]
theorem trackC {B : Nat} {A : Option Addr} {n c g k k' gp cp j : Nat} {w w' : World} {P : List Int} {x : Int} (h2 : 2 ≤ P.length) (h31 : P.length ≤ 31) (hk : k' ≤ k + 200) (hv : ValE P) (hx : -1001 ≤ x ∧ x ≤ 20001) (hj : j < P.length) (ho : w'.ownsRow w.heap.size 3 1 (.slice (some ⟨gp, 0, none⟩) P.length cp) P.length (ivs P)) (hc : Cur B A n c g k' w') (hgw : g < w.heap.size) (hB : B ≤ g) (hg : w.grownBy w' (some g)) :
    TrackAny B A n c g k w (.returned (.slice (some ⟨gp, 0, none⟩) P.length cp)) (w'.setCell ⟨gp, j, none⟩ (.int .i64 x)) := by
  have hlo := (ho.lt gp rfl).1
  have hhi := (ho.lt gp rfl).2
  have hl : (P.set j x).length = P.length := List.length_set
  have hz : (w'.setCell ⟨gp, j, none⟩ (.int .i64 x)).heap.size = w'.heap.size := by simp [World.setCell]
  refine ⟨P.set j x, gp, cp, k', by omega, by omega, ⟨hk, by rw [hl]; exact own_capE ho⟩, hlo, by omega, by rw [hl], val_set hv hx j, ?_, hc.set (by omega) (by omega) j _, grown_put hg hlo j _⟩
  rw [hl, hz]
  exact ((ifun_of_own ho).set x).congr fun i hi => by
    by_cases e : i = j
    · subst e; rw [if_pos rfl, getD_set_eq hj]
    · rw [if_neg e, getD_set_ne (Ne.symm e)]
set_option maxRecDepth 20000 in
set_option maxHeartbeats 6400000 in
theorem track_any (B : Nat) (A : Option Addr) (n c g k : Nat) (w : World) (h : Cur B A n c g k w) (hk : k < 900000) :
    Calls Try.prog 52 #[.pointer (some ⟨g, 0, none⟩)] w (TrackAny B A n c g k w) := by
  obtain ⟨i0, hi, hz0, hz1, hz2⟩ := info_parts info3
  have HJ := Lib.hid (And.intro hi (And.intro hz0 (And.intro hz1 hz2)))
  clear hi hz0 hz1 hz2
  have hgl := h.lt
  have hBg := h.old
  have HC0 := Lib.hid (h.alloc (.cells #[] 3))
  have HG0 : Hid (w.grownBy (w.alloc (.cells #[] 3)) (some g)) := Lib.hid (World.grownBy_alloc _ _ _)
  have HI0 : Hid ((w.alloc (.cells #[] 3)).ownsRow w.heap.size 3 1 (.slice (some ⟨w.heap.size, 0, none⟩) 0 0) 0 (ivs [])) := Lib.hid (col_start (w := w) 3 1 (Below.refl _ _)).1
  clear h
  obtain ⟨V0, hV0⟩ : ∃ V0, V0 = w.alloc (.cells #[] 3) := ⟨_, rfl⟩
  rw [← hV0] at HC0 HG0 HI0
  go_enter Try.func52, Try.ntmps52
  go_upto_region 2 with fail
  rw [← hV0]
  clear hV0
  go_wp2_with fail
  refine (among_at (fun x => 0 ≤ x ∧ x ≤ 1500) _ _ _ _ _ _ _ 4 [0, 500, 900, 1500] _ HC0.out rfl (by omega) (by decide) (by decide) (by intro x hx; simp only [List.mem_cons, List.not_mem_nil, or_false] at hx; omega)).mono ?_
  rintro e w1 ⟨bs, ⟨hb0, hb1⟩, rfl, hc, hg⟩
  have HC1 := Lib.hid hc
  have HG1 := Lib.hid (grown_trans HG0.out hg)
  have HI1 := Lib.hid (own_any HI0.out hg (fun i e => by have := Option.some.inj e; omega))
  clear hc hg HC0 HG0 HI0
  go_wp2_with fail
  refine (pick_any _ _ _ _ _ _ 10 _ HC1.out (by omega) (by decide) (by decide)).mono ?_
  rintro e w2 ⟨r0, hr0, rfl, hc, hg⟩
  have HC2 := Lib.hid hc
  have HG2 := Lib.hid (grown_trans HG1.out hg)
  have HI2 := Lib.hid (own_any HI1.out hg (fun i e => by have := Option.some.inj e; omega))
  clear hc hg HC1 HG1 HI1
  go_wp2_with fail
  go_loopw [3, 5] (fun s i wr => ∃ (P : List Int) (gp cp k' r : Nat), P.length + r ≤ 12 ∧ 3 ≤ P.length + r ∧ k' + r ≤ k + 20 ∧ s = .slice (some ⟨gp, 0, none⟩) P.length cp ∧ i = .int .i64 r ∧ Hid (ValE P) ∧ Hid (wr.ownsRow w.heap.size 3 1 (.slice (some ⟨gp, 0, none⟩) P.length cp) P.length (ivs P)) ∧ Hid (Cur B A n c g k' wr) ∧ Hid (w.grownBy wr (some g))) (fun _ i _ => (intOf i).toNat)
  case atStart => exact ⟨[], w.heap.size, 0, _, 3 + r0, by simp <;> omega, by simp <;> omega, by omega, rfl, by go_num, Lib.hid val_nil, HI2, HC2, HG2⟩
  case round =>
    clear HI2 HC2 HG2
    obtain ⟨P, gp, cp, k', r, hpr, hp3, hk3, rfl, rfl, HP, hI, hC, hG⟩ := hrel
    by_cases hlt : 0 < r
    · obtain ⟨r, rfl⟩ : ∃ j, r = j + 1 := ⟨r - 1, by omega⟩
      have hr0' : decide (((r + 1 : Nat) : Int) > 0) = true := decide_eq_true (by omega)
      go_wp2_with fail
      refine (among_at (fun x => -150 ≤ x ∧ x ≤ 200) _ _ _ _ _ _ _ 8 [0, 0, 5, 10, 20, -15, 200, -150] _ hC.out rfl (by omega) (by decide) (by decide) (by intro x hx; simp only [List.mem_cons, List.not_mem_nil, or_false] at hx; omega)).mono ?_
      rintro e w4 ⟨y, ⟨hy0, hy1⟩, rfl, hc, hg⟩
      have HC6 := Lib.hid hc
      have HG6 := Lib.hid (grown_trans hG.out hg)
      have HI6 := Lib.hid (own_any hI.out hg (fun i e => by have := Option.some.inj e; omega))
      clear hc hg hC hG hI
      have HV : Hid (∀ b, (Value.slice (some ⟨gp, 0, none⟩) P.length cp).ownBlock = some b → w.heap.size ≤ b) := Lib.hid fun b e => by have e2 : gp = b := Option.some.inj e; have := (HI6.out.lt b e).1; omega
      have HNA := Lib.hid (World.ownsRow.alloc HI6.out (.cells #[.int .i64 (bs + y)] 3))
      have HS4 : Hid (w.heap.size ≤ (w4.alloc (.cells #[.int .i64 (bs + y)] 3)).heap.size) := Lib.hid (by have h1 := HG6.out.size; simp; omega)
      go_wp2_with (at_builtin; go_loud (refine wpList_append_own _ rfl _ _ 24 rfl w.heap.size 3 i0 (.int .i64 0) 1 8 Try.underlying24 HJ.out.1 HJ.out.2.1 HJ.out.2.2.1 HJ.out.2.2.2 rfl (by decide) _ _ _ rfl HNA.out ⟨w4.heap.size, 0, none⟩ 1 1 [.int .i64 (bs + y)] rfl rfl (one_newJ _ _ _) (by simp [Value.oneCell']) (by unfold maxLen; omega) (by omega) HS4.out ?_; intro v2 w5 hown' hgrow hne; have HN5 := Lib.hid hown'; have HGR := Lib.hid hgrow; clear hown' hgrow hne))
      obtain ⟨gp2, cp2, rfl, _, _⟩ := own_capsJ HN5.out
      have HI5 : Hid (w5.ownsRow w.heap.size 3 1 (.slice (some ⟨gp2, 0, none⟩) (P ++ [bs + y]).length cp2) (P ++ [bs + y]).length (ivs (P ++ [bs + y]))) := by rw [ivs_snoc, List.length_append]; exact HN5
      have HC5 := Lib.hid ((HC6.out.alloc (.cells #[.int .i64 (bs + y)] 3)).past hgl HGR.out HV.out)
      have HG5 := Lib.hid (grown_past (w := w) (grown_trans HG6.out (World.grownBy_alloc w4 (.cells #[.int .i64 (bs + y)] 3) (some g))) HGR.out HV.out)
      have hll : (P ++ [bs + y]).length = P.length + 1 := by simp
      have HP5 := Lib.hid (val_snoc HP.out (show -1001 ≤ bs + y ∧ bs + y ≤ 20001 by omega))
      clear HC6 HG6 HI6 HNA HGR HV HN5
      go_roundw
      case rel => exact ⟨P ++ [bs + y], gp2, cp2, _, r, by rw [hll]; omega, by rw [hll]; omega, by omega, by first | rfl | rw [hll], by go_num, HP5, HI5, HC5, HG5⟩
      case measure => simp [intOf]
    · obtain rfl : r = 0 := by omega
      go_wp2_with fail
      refine (pick_any _ _ _ _ _ _ 32 _ hC.out (by omega) (by decide) (by decide)).mono ?_
      rintro e w4 ⟨u, hu, rfl, hc, hg⟩
      have HC6 := Lib.hid hc
      have HG6 := Lib.hid (grown_trans hG.out hg)
      have HI6 := Lib.hid (own_any hI.out hg (fun i e => by have := Option.some.inj e; omega))
      have hcp := own_cap12 hI.out
      clear hc hg hC hG hI
      by_cases h0 : u = 0
      · subst h0
        go_wp2_with fail
        go_ret
        exact trackB (by omega) (by omega) HP.out HI6.out HC6.out HG6.out
      by_cases h1 : u = 1
      · subst h1
        go_wp2_with fail
        refine (pick_any _ _ _ _ _ _ P.length _ HC6.out (by omega) (by omega) (by omega)).mono ?_
        rintro e w5 ⟨j, hj, rfl, hc, hg⟩
        have HC7 := Lib.hid hc
        have HG7 := Lib.hid (grown_trans HG6.out hg)
        have HI7 := Lib.hid (own_any HI6.out hg (fun i e => by have := Option.some.inj e; omega))
        clear hc hg HC6 HG6 HI6
        go_wp2_with fail
        refine (among_at (fun x => -1001 ≤ x ∧ x ≤ 20001) _ _ _ _ _ _ _ 4 [-1001, -1000, 20000, 20001] _ HC7.out rfl (by omega) (by decide) (by decide) (by intro x hx; simp only [List.mem_cons, List.not_mem_nil, or_false] at hx; omega)).mono ?_
        rintro e w6 ⟨x, hx, rfl, hc, hg⟩
        have HC8 := Lib.hid hc
        have HG8 := Lib.hid (grown_trans HG7.out hg)
        have HI8 := Lib.hid (own_any HI7.out hg (fun i e => by have := Option.some.inj e; omega))
        clear hc hg HC7 HG7 HI7
        obtain ⟨u0, o1⟩ : ∃ u0, w6.cell? ⟨gp, j, none⟩ = some u0 := by
          obtain ⟨b, e, _, _, h, _⟩ := ifun_of_own HI8.out j hj
          obtain rfl : gp = b := by injection e with e; injection e
          exact ⟨_, h⟩
        have f1 : w6.frozen? ⟨gp, j, none⟩ = false := HI8.out.frozenAt j
        go_wp2_with fail
        go_ret
        exact trackC (by omega) (by omega) (by omega) HP.out hx hj HI8.out HC8.out hgl hBg HG8.out
      by_cases h2 : u = 2
      · subst h2
        go_wp2_with fail
        go_loopw [3] (fun s wr => ∃ (P : List Int) (gp cp k' : Nat), 3 ≤ P.length ∧ P.length ≤ 31 ∧ k' ≤ k + 40 + P.length ∧ s = .slice (some ⟨gp, 0, none⟩) P.length cp ∧ Hid (ValE P) ∧ Hid (wr.ownsRow w.heap.size 3 1 (.slice (some ⟨gp, 0, none⟩) P.length cp) P.length (ivs P)) ∧ Hid (Cur B A n c g k' wr) ∧ Hid (w.grownBy wr (some g))) (fun s _ => 31 - (lenOf s))
        case atStart => exact ⟨P, gp, cp, _, by omega, by omega, by omega, rfl, HP, HI6, HC6, HG6⟩
        case round =>
          clear HI6 HC6 HG6 HP hpr hp3 hk3 hcp
          obtain ⟨P, gp, cp, k', hp3, hpl, hk4, rfl, HP, hI, hC, hG⟩ := hrel
          go_wp2_with fail
          refine (pick_any _ _ _ _ _ _ 2 _ hC.out (by omega) (by decide) (by decide)).mono ?_
          rintro e w4 ⟨u, hu, rfl, hc, hg⟩
          have HC6 := Lib.hid hc
          have HG6 := Lib.hid (grown_trans hG.out hg)
          have HI6 := Lib.hid (own_any hI.out hg (fun i e => by have := Option.some.inj e; omega))
          clear hc hg hC hG hI
          by_cases hlu : (P.length : Int) < 30 + u
          · obtain ⟨z, hzz, hz0, hz1⟩ : ∃ z : Nat, (P.length : Int) % 2 = z ∧ 0 ≤ z ∧ z ≤ 1 := ⟨P.length % 2, by omega, by omega, by omega⟩
            have hzt : (P.length : Int).tmod 2 = z := by rw [Int.tmod_eq_emod_of_nonneg (by omega)]; exact hzz
            have HV : Hid (∀ b, (Value.slice (some ⟨gp, 0, none⟩) P.length cp).ownBlock = some b → w.heap.size ≤ b) := Lib.hid fun b e => by have e2 : gp = b := Option.some.inj e; have := (HI6.out.lt b e).1; omega
            have HNA := Lib.hid (World.ownsRow.alloc HI6.out (.cells #[.int .i64 (bs + 7 * z)] 3))
            have HS4 : Hid (w.heap.size ≤ (w4.alloc (.cells #[.int .i64 (bs + 7 * z)] 3)).heap.size) := Lib.hid (by have h1 := HG6.out.size; simp; omega)
            go_wp2_with (at_builtin; go_loud (refine wpList_append_own _ rfl _ _ 24 rfl w.heap.size 3 i0 (.int .i64 0) 1 8 Try.underlying24 HJ.out.1 HJ.out.2.1 HJ.out.2.2.1 HJ.out.2.2.2 rfl (by decide) _ _ _ rfl HNA.out ⟨w4.heap.size, 0, none⟩ 1 1 [.int .i64 (bs + 7 * z)] rfl rfl (one_newJ _ _ _) (by simp [Value.oneCell']) (by unfold maxLen; omega) (by omega) HS4.out ?_; intro v2 w5 hown' hgrow hne; have HN5 := Lib.hid hown'; have HGR := Lib.hid hgrow; clear hown' hgrow hne))
            obtain ⟨gp2, cp2, rfl, _, _⟩ := own_capsJ HN5.out
            have HI5 : Hid (w5.ownsRow w.heap.size 3 1 (.slice (some ⟨gp2, 0, none⟩) (P ++ [bs + 7 * z]).length cp2) (P ++ [bs + 7 * z]).length (ivs (P ++ [bs + 7 * z]))) := by rw [ivs_snoc, List.length_append]; exact HN5
            have HC5 := Lib.hid ((HC6.out.alloc (.cells #[.int .i64 (bs + 7 * z)] 3)).past hgl HGR.out HV.out)
            have HG5 := Lib.hid (grown_past (w := w) (grown_trans HG6.out (World.grownBy_alloc w4 (.cells #[.int .i64 (bs + 7 * z)] 3) (some g))) HGR.out HV.out)
            have hll : (P ++ [bs + 7 * z]).length = P.length + 1 := by simp
            have HP5 := Lib.hid (val_snoc HP.out (show -1001 ≤ bs + 7 * z ∧ bs + 7 * z ≤ 20001 by omega))
            clear HC6 HG6 HI6 HNA HGR HV HN5
            go_roundw
            case rel => exact ⟨P ++ [bs + 7 * z], gp2, cp2, _, by rw [hll]; omega, by rw [hll]; omega, by rw [hll]; omega, by first | rfl | rw [hll], HP5, HI5, HC5, HG5⟩
            case measure => simp [lenOf]; omega
          · go_wp2_with fail
            go_ret
            exact trackA (by omega) (by omega) (by omega) HP.out HI6.out HC6.out HG6.out
      have d0 : (((u : Nat) : Int) == 0) = false := beq_eq_false_iff_ne.2 (by omega)
      have d1 : (((u : Nat) : Int) == 1) = false := beq_eq_false_iff_ne.2 (by omega)
      have d2 : (((u : Nat) : Int) == 2) = false := beq_eq_false_iff_ne.2 (by omega)
      go_wp2_with fail
      go_ret
      exact trackA (by omega) (by omega) (by omega) HP.out HI6.out HC6.out HG6.out
def Lim12 (x : Int) : Prop := 0 ≤ x ∧ x ≤ 5001
theorem limit12_any (B : Nat) (A : Option Addr) (n c g k : Nat) (w : World) (h : Cur B A n c g k w) (hk : k < 990000) :
    Calls Try.prog 53 #[.pointer (some ⟨g, 0, none⟩)] w fun e w' => ∃ x : Int, Lim12 x ∧ e = .returned (.int .i64 x) ∧ Cur B A n c g (k + 1) w' ∧ w.grownBy w' (some g) := by
  have HC0 := Lib.hid h
  clear h
  go_enter Try.func53, Try.ntmps53
  go_wp2_with fail
  refine (among_at (fun x => 0 ≤ x ∧ x ≤ 5001) _ _ _ _ _ _ _ 10 [1, 5, 10, 30, 100, 5000, 0, 5001, 20, 15] _ HC0.out rfl (by omega) (by decide) (by decide) (by intro x hx; simp only [List.mem_cons, List.not_mem_nil, or_false] at hx; omega)).mono ?_
  rintro e w1 ⟨x, hx, rfl, hc, hg⟩
  have HC := Lib.hid hc
  have HG := Lib.hid hg
  clear hc hg
  go_wp2_with fail
  go_ret
  exact ⟨x, hx, rfl, HC.out, HG.out⟩
end Go.Proofs.Ytjekmmekkfmplaa
