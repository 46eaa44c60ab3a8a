/-
  Casts and numbers that are drawn: contracts of spec.l1Cur.depth7, time7, casts over this translation. Conditions: stated at each theorem.
-/
import Derived.Test.YtdmnkmdlochogabRj
import Derived.Test.YtdmnkmdlochogabRr0
import Derived.Test.YtdmnkmdlochogabZs
import Derived.Laws.IdiomStrings
namespace Go.Proofs.Ytdmnkmdlochogab
open Go.RowKit Go.Sort Go.Deep
set_option linter.unusedVariables false

def Id3Post (B : Nat) (A : Option Addr) (n c g k : Nat) (w : World) (e : Ending) (w' : World) : Prop :=
  ∃ (x : Int) (k' : Nat), k' ≤ k + 3 ∧ e = .returned (.int .i64 x) ∧ Cur B A n c g k' w' ∧ w.grownBy w' (some g)
theorem depth7_any (B : Nat) (A : Option Addr) (n c g k : Nat) (w : World) (h : Cur B A n c g k w) (hk : k < 900000) :
    Calls Try.prog 174 #[.pointer (some ⟨g, 0, none⟩)] w (Id3Post B A n c g k w) := by
  have hgl := h.lt
  have HC0 := Lib.hid (h.alloc (.cells ([0, 1, 149, 150, 1500, 20000, -1, 20001].map (Value.int .i64)).toArray 3))
  have HH0 := Lib.hid (has_ints w [0, 1, 149, 150, 1500, 20000, -1, 20001])
  have HG0 : Hid (w.grownBy (w.alloc (.cells ([0, 1, 149, 150, 1500, 20000, -1, 20001].map (Value.int .i64)).toArray 3)) (some g)) := Lib.hid (World.grownBy_alloc _ _ _)
  clear h
  go_enter Try.func174, Try.ntmps174
  go_wp2_with fail
  refine (pick_any _ _ _ _ _ _ 24 _ HC0.out (by omega) (by decide) (by decide)).mono ?_
  rintro e w1 ⟨q, hq, rfl, hc, hg⟩
  have HC1 := Lib.hid hc
  have HG1 := Lib.hid (grown_trans HG0.out hg)
  have HH1 := Lib.hid (has_grown HH0.out hg (fun e => by have := Option.some.inj e; omega))
  clear hc hg HC0 HG0 HH0
  obtain ⟨r, hr, hr1, hr2⟩ : ∃ r : Nat, (6 : Int) + (q : Int) / 11 = r ∧ 6 ≤ r ∧ r ≤ 8 := ⟨6 + q / 11, by omega, by omega, by omega⟩
  go_wp2_with fail
  refine (among_pre _ _ _ _ _ _ _ _ r [0, 1, 149, 150, 1500, 20000, -1, 20001] _ HC1.out (by omega) (by omega) (by simp; omega) (by decide) HH1.out (by omega)).mono ?_
  rintro e w2 ⟨x, _, rfl, hc, hg⟩
  have HX := Lib.hid (And.intro hc (grown_trans HG1.out hg))
  clear hc hg
  go_wp2_with fail
  go_ret
  exact ⟨x, _, by omega, rfl, HX.out.1, HX.out.2⟩
theorem time7_any (B : Nat) (A : Option Addr) (n c g k : Nat) (w : World) (h : Cur B A n c g k w) (hk : k < 900000) :
    Calls Try.prog 138 #[.pointer (some ⟨g, 0, none⟩)] w (Id3Post B A n c g k w) := by
  have hgl := h.lt
  have HC0 := Lib.hid (h.alloc (.cells ([0, 99, 100, 161, 9300, 10000, -1, 10001].map (Value.int .i64)).toArray 3))
  have HH0 := Lib.hid (has_ints w [0, 99, 100, 161, 9300, 10000, -1, 10001])
  have HG0 : Hid (w.grownBy (w.alloc (.cells ([0, 99, 100, 161, 9300, 10000, -1, 10001].map (Value.int .i64)).toArray 3)) (some g)) := Lib.hid (World.grownBy_alloc _ _ _)
  clear h
  go_enter Try.func138, Try.ntmps138
  go_wp2_with fail
  refine (pick_any _ _ _ _ _ _ 24 _ HC0.out (by omega) (by decide) (by decide)).mono ?_
  rintro e w1 ⟨q, hq, rfl, hc, hg⟩
  have HC1 := Lib.hid hc
  have HG1 := Lib.hid (grown_trans HG0.out hg)
  have HH1 := Lib.hid (has_grown HH0.out hg (fun e => by have := Option.some.inj e; omega))
  clear hc hg HC0 HG0 HH0
  obtain ⟨r, hr, hr1, hr2⟩ : ∃ r : Nat, (6 : Int) + (q : Int) / 11 = r ∧ 6 ≤ r ∧ r ≤ 8 := ⟨6 + q / 11, by omega, by omega, by omega⟩
  go_wp2_with fail
  refine (among_pre _ _ _ _ _ _ _ _ r [0, 99, 100, 161, 9300, 10000, -1, 10001] _ HC1.out (by omega) (by omega) (by simp; omega) (by decide) HH1.out (by omega)).mono ?_
  rintro e w2 ⟨x, _, rfl, hc, hg⟩
  have HX := Lib.hid (And.intro hc (grown_trans HG1.out hg))
  clear hc hg
  go_wp2_with fail
  go_ret
  exact ⟨x, _, by omega, rfl, HX.out.1, HX.out.2⟩
theorem Cur.row7 {B : Nat} {A : Option Addr} {n c g k : Nat} {w W W' : World} {r : Option Nat} (h : Cur B A n c g k W) (hgw : g < w.heap.size) (hg : W.grownBy W' r) (hr : ∀ b, r = some b → w.heap.size ≤ b) : Cur B A n c g k W' := h.past hgw hg hr
/-- What casts hands back. -/
def CastsPost7 (B : Nat) (A : Option Addr) (n c g k : Nat) (w : World) (e : Ending) (w' : World) : Prop :=
  ∃ (L : List KV) (gb cap k' : Nat), L.length ≤ 7 ∧ k' ≤ k + 3000 ∧ w.heap.size ≤ gb ∧ e = .returned (.slice (some ⟨gb, 0, none⟩) L.length cap) ∧ RK w.heap.size L (.slice (some ⟨gb, 0, none⟩) L.length cap) w' ∧ InK w' w.heap.size w'.heap.size L ∧ Cur B A n c g k' w' ∧ w.grownBy w' (some g)
set_option maxRecDepth 100000 in
set_option maxHeartbeats 6400000 in
theorem casts_any (B : Nat) (A : Option Addr) (n c g k : Nat) (w : World) (h : Cur B A n c g k w) (hk : k < 700000) :
    Calls Try.prog 137 #[.pointer (some ⟨g, 0, none⟩)] w (CastsPost7 B A n c g k w) := by
  obtain ⟨i0, hi, hz0, hz1, hz2⟩ := info_parts infoCast
  have HI := Lib.hid (And.intro hi (And.intro hz0 (And.intro hz1 hz2)))
  clear hi hz0 hz1 hz2
  have hgl := h.lt
  have HC0 := Lib.hid (h.alloc (.cells #[] 64))
  have HG0 : Hid (w.grownBy (w.alloc (.cells #[] 64)) (some g)) := Lib.hid (World.grownBy_alloc _ _ _)
  have HR0 := Lib.hid (RK.new w)
  clear h
  go_enter Try.func137, Try.ntmps137
  go_wp2_with fail
  refine (among_at AnyI _ _ _ _ _ _ _ 3 [0, 100, 9000] _ HC0.out (by simp) (by omega) (by decide) (by decide) (fun _ _ => trivial)).mono ?_
  rintro e w1 ⟨t0, _, rfl, hc, hg⟩
  have HC1 := Lib.hid hc
  have HG1 := Lib.hid (grown_trans HG0.out hg)
  have HR1 := Lib.hid (HR0.out.draw hg hgl)
  clear hc hg HC0 HG0 HR0
  go_wp2_with fail
  refine (pick_any _ _ _ _ _ _ 5 _ HC1.out (by omega) (by decide) (by decide)).mono ?_
  rintro e w2 ⟨q, hq, rfl, hc, hg⟩
  have HC2 := Lib.hid hc
  have HG2 := Lib.hid (grown_trans HG1.out hg)
  have HR2 := Lib.hid (HR1.out.draw hg hgl)
  clear hc hg HC1 HG1 HR1
  go_wp2_with fail
  go_loopw [3, 4, 5] (fun s x i wr => ∃ (L : List KV) (gb cap k' r : Nat) (y : Int), L.length + r ≤ 4 ∧ k' + 410 * r ≤ k + 1700 ∧ w.heap.size ≤ gb ∧ s = .slice (some ⟨gb, 0, none⟩) L.length cap ∧ x = .int .i64 y ∧ i = .int .i64 r ∧ Hid (InK wr w.heap.size wr.heap.size L) ∧ Hid (RK w.heap.size L (.slice (some ⟨gb, 0, none⟩) L.length cap) wr) ∧ Hid (Cur B A n c g k' wr) ∧ Hid (w.grownBy wr (some g))) (fun _ _ i _ => (intOf i).toNat)
  case atStart => exact ⟨[], w.heap.size, 0, k + 2, q, t0, by simp; omega, by omega, Nat.le_refl _, rfl, rfl, rfl, Lib.hid (InK.nil _ _ _), HR2, HC2, HG2⟩
  case round =>
    clear HC2 HG2 HR2
    obtain ⟨L, gb, cap, k', r, y, hr5, hk2, hgb, rfl, rfl, rfl, hN, hR, hC, hG⟩ := hrel
    rcases Nat.eq_zero_or_pos r with h0 | h0
    · subst h0
      go_wp2_with fail
      refine (one_any _ _ _ _ _ _ 24 _ hC.out (by omega) (by decide) (by decide)).mono ?_
      rintro e w2 ⟨b, rfl, hc, hg⟩
      have HC2 := Lib.hid hc
      have HG2 := Lib.hid (grown_trans hG.out hg)
      have HR2 := Lib.hid (hR.out.draw hg hgl)
      have HN2 := Lib.hid (hN.out.draw hg hgl)
      clear hc hg hC hG hR hN
      rcases b with _ | _
      · go_wp2_with fail
        go_ret
        exact ⟨L, gb, cap, _, by omega, by omega, hgb, rfl, HR2.out, HN2.out, HC2.out, HG2.out⟩
      · have HR3 := Lib.hid ((RK.new w2).low HG2.out.size)
        have HC3 := Lib.hid (HC2.out.alloc (.cells #[] 64))
        have HG3 := Lib.hid (grown_trans HG2.out (World.grownBy_alloc w2 (.cells #[] 64) (some g)))
        have hgb2 : w.heap.size ≤ w2.heap.size := HG2.out.size
        clear HR2 HC2 HG2 HN2
        go_wp2_with fail
        go_loopw [3, 6] (fun s i wr => ∃ (L : List KV) (gb cap k' : Nat), L.length ≤ 7 ∧ k' ≤ k + 1710 + L.length ∧ w.heap.size ≤ gb ∧ s = .slice (some ⟨gb, 0, none⟩) L.length cap ∧ i = .int .i64 L.length ∧ Hid (InK wr w.heap.size wr.heap.size L) ∧ Hid (RK w.heap.size L (.slice (some ⟨gb, 0, none⟩) L.length cap) wr) ∧ Hid (Cur B A n c g k' wr) ∧ Hid (w.grownBy wr (some g))) (fun _ i _ => 8 - (intOf i).toNat)
        case atStart => exact ⟨[], w2.heap.size, 0, _, by simp, by simp; omega, hgb2, rfl, rfl, Lib.hid (InK.nil _ _ _), HR3, HC3, HG3⟩
        case round =>
          clear HR3 HC3 HG3
          obtain ⟨L, gb, cap, k', hl7, hk2, hgb, rfl, rfl, hN, hR, hC, hG⟩ := hrel
          go_wp2_with fail
          refine (pick_any _ _ _ _ _ _ 2 _ hC.out (by omega) (by decide) (by decide)).mono ?_
          rintro e w3 ⟨u, hu, rfl, hc, hg⟩
          have HC4 := Lib.hid hc
          have HG4 := Lib.hid (grown_trans hG.out hg)
          have HR4 := Lib.hid (hR.out.draw hg hgl)
          have HN4 := Lib.hid (hN.out.draw hg hgl)
          clear hc hg hC hG hR hN
          by_cases hlt : (L.length : Int) < 6 + u
          · have hs3 : w.heap.size ≤ w3.heap.size := HG4.out.size
            have HR5 := Lib.hid ((HR4.out.alloc (.cells #[.int .i64 0, .int .i64 15000] 140)).alloc (.cells #[.int .i64 ((L.length : Int) + 1), .int .i64 (L.length : Int), .int .i64 0, .int .i64 0, .slice (some ⟨w3.heap.size, 0, none⟩) 1 1] 64))
            have HC5 := Lib.hid ((HC4.out.alloc (.cells #[.int .i64 0, .int .i64 15000] 140)).alloc (.cells #[.int .i64 ((L.length : Int) + 1), .int .i64 (L.length : Int), .int .i64 0, .int .i64 0, .slice (some ⟨w3.heap.size, 0, none⟩) 1 1] 64))
            have HG5 := Lib.hid (grown_trans (grown_trans HG4.out (World.grownBy_alloc w3 (.cells #[.int .i64 0, .int .i64 15000] 140) (some g))) (World.grownBy_alloc (w3.alloc (.cells #[.int .i64 0, .int .i64 15000] 140)) (.cells #[.int .i64 ((L.length : Int) + 1), .int .i64 (L.length : Int), .int .i64 0, .int .i64 0, .slice (some ⟨w3.heap.size, 0, none⟩) 1 1] 64) (some g)))
            obtain ⟨v, hv⟩ : ∃ v : KV, v = ⟨(L.length : Int) + 1, (L.length : Int), (0, 0), some ⟨w3.heap.size, 0, none⟩, 1, [(0, 15000)]⟩ := ⟨_, rfl⟩
            have HI5 := Lib.hid ((HN4.out.alloc (.cells #[.int .i64 0, .int .i64 15000] 140)).alloc (.cells #[.int .i64 ((L.length : Int) + 1), .int .i64 (L.length : Int), .int .i64 0, .int .i64 0, .slice (some ⟨w3.heap.size, 0, none⟩) 1 1] 64))
            have HO5 : Hid (v.l.length ≤ 9 ∧ OwnL ((w3.alloc (.cells #[.int .i64 0, .int .i64 15000] 140)).alloc (.cells #[.int .i64 ((L.length : Int) + 1), .int .i64 (L.length : Int), .int .i64 0, .int .i64 0, .slice (some ⟨w3.heap.size, 0, none⟩) 1 1] 64)) w.heap.size ((w3.alloc (.cells #[.int .i64 0, .int .i64 15000] 140)).alloc (.cells #[.int .i64 ((L.length : Int) + 1), .int .i64 (L.length : Int), .int .i64 0, .int .i64 0, .slice (some ⟨w3.heap.size, 0, none⟩) 1 1] 64)).heap.size v.R v.l.length v.l) := by
              rw [hv]
              exact Lib.hid ⟨(show (1 : Nat) ≤ 9 by decide), ((OwnL.one w3 0 15000 hs3).keep (World.grownBy_alloc _ _ none) (by simp) (fun _ _ e => by cases e)).wide (Nat.le_refl _) (by simp)⟩
            have HX7 : Hid (∀ j u, (cellsV [v])[j]? = some u → ((w3.alloc (.cells #[.int .i64 0, .int .i64 15000] 140)).alloc (.cells #[.int .i64 ((L.length : Int) + 1), .int .i64 (L.length : Int), .int .i64 0, .int .i64 0, .slice (some ⟨w3.heap.size, 0, none⟩) 1 1] 64)).cell? ((⟨(w3.alloc (.cells #[.int .i64 0, .int .i64 15000] 140)).heap.size, 0, none⟩ : Addr).add j) = some u) := by rw [hv]; exact Lib.hid (cells_oneV (w3.alloc (.cells #[.int .i64 0, .int .i64 15000] 140)) ⟨(L.length : Int) + 1, (L.length : Int), (0, 0), some ⟨w3.heap.size, 0, none⟩, 1, [(0, 15000)]⟩)
            rw [World.size_alloc] at HX7
            have HZ : Hid (∀ b, (Value.slice (some ⟨gb, 0, none⟩) L.length cap).ownBlock = some b → w.heap.size ≤ b) := Lib.hid fun b e => by have : gb = b := Option.some.inj e; omega
            have HSZ : Hid (w.heap.size ≤ ((w3.alloc (.cells #[.int .i64 0, .int .i64 15000] 140)).alloc (.cells #[.int .i64 ((L.length : Int) + 1), .int .i64 (L.length : Int), .int .i64 0, .int .i64 0, .slice (some ⟨w3.heap.size, 0, none⟩) 1 1] 64)).heap.size) := Lib.hid HG5.out.size
            have hll : (L ++ [v]).length = L.length + 1 := by simp
            clear hv HR4 HC4 HG4 HN4
            go_wp2_with (at_builtin; go_loud (refine wpList_append_own _ rfl _ _ 72 rfl w.heap.size 64 i0 (.agg #[.int .i64 0, .int .i64 0, .int .i64 0, .int .i64 0, .slice none 0 0]) 5 56 Try.underlying72 HI.out.1 HI.out.2.1 HI.out.2.2.1 HI.out.2.2.2 rfl (by decide) _ _ _ rfl HR5.out ⟨w3.heap.size + 1, 0, none⟩ 1 1 (cellsV [v]) rfl rfl HX7.out (cellsV_one [v]) (by unfold maxLen; omega) (by omega) HSZ.out ?_; intro v2 w5 hown' hgrow hne; have HN6 := Lib.hid (RK.more hown'); have HGR := Lib.hid hgrow; have HNE := Lib.hid hne; clear hown' hgrow hne))
            have hv2 : v2 ≠ .slice none 0 0 := fun e => by have := (HNE.out.1 e).2; omega
            obtain ⟨gb2, cap2, rfl, hgb2, _⟩ := HN6.out.slice hv2
            have HC6 := Lib.hid (HC5.out.past hgl HGR.out HZ.out)
            have HG6 := Lib.hid (grown_past HG5.out HGR.out HZ.out)
            have HI6 := Lib.hid ((HI5.out.more HO5.out.1 HO5.out.2).append HR5.out HGR.out)
            go_roundw
            case rel => exact ⟨L ++ [v], gb2, cap2, _, by omega, by omega, hgb2, rfl, by rw [hll]; go_num, HI6, HN6, HC6, HG6⟩
            case measure => simp [intOf]; omega
          · go_wp2_with fail
            go_ret
            exact ⟨L, gb, cap, _, by omega, by omega, hgb, rfl, HR4.out, HN4.out, HC4.out, HG4.out⟩
    · go_wp2_with fail
      refine (pick_any _ _ _ _ _ _ 60 _ hC.out (by omega) (by decide) (by decide)).mono ?_
      rintro e w2 ⟨u, hu, rfl, hc, hg⟩
      have HC2 := Lib.hid hc
      have HG2 := Lib.hid (grown_trans hG.out hg)
      have HR2 := Lib.hid (hR.out.draw hg hgl)
      have HI2 := Lib.hid (hN.out.draw hg hgl)
      clear hc hg hC hG hR hN
      have hs2 : w.heap.size ≤ w2.heap.size := HG2.out.size
      go_wp2_with fail
      refine (cast_any _ _ _ _ _ _ _ _ _ HC2.out (by omega)).mono ?_
      rintro e w4 ⟨ci, ct, sp, cR, cm, cc, cl, k4, hcm, hc9, hk4, rfl, hrow, hc, hg⟩
      subst hcm
      have HC4 := Lib.hid hc
      have HG4 := Lib.hid (grown_trans HG2.out hg)
      have HR4 := Lib.hid (HR2.out.draw hg hgl)
      have HI4 := Lib.hid (HI2.out.draw hg hgl)
      have HO4 := Lib.hid (hrow.wide hs2 (Nat.le_refl _))
      clear hc hg hrow HC2 HG2 HR2 HI2
      obtain ⟨v, hv⟩ : ∃ v : KV, v = ⟨ci, ct, sp, cR, cc, cl⟩ := ⟨_, rfl⟩
      have HR5 := Lib.hid (HR4.out.alloc (.cells #[.int .i64 ci, .int .i64 ct, .int .i64 sp.1, .int .i64 sp.2, .slice cR cl.length cc] 64))
      have HC5 := Lib.hid (HC4.out.alloc (.cells #[.int .i64 ci, .int .i64 ct, .int .i64 sp.1, .int .i64 sp.2, .slice cR cl.length cc] 64))
      have HG5 := Lib.hid (grown_trans HG4.out (World.grownBy_alloc w4 (.cells #[.int .i64 ci, .int .i64 ct, .int .i64 sp.1, .int .i64 sp.2, .slice cR cl.length cc] 64) (some g)))
      have HI5 : Hid (InK (w4.alloc (.cells #[.int .i64 ci, .int .i64 ct, .int .i64 sp.1, .int .i64 sp.2, .slice cR cl.length cc] 64)) w.heap.size (w4.alloc (.cells #[.int .i64 ci, .int .i64 ct, .int .i64 sp.1, .int .i64 sp.2, .slice cR cl.length cc] 64)).heap.size (L ++ [v])) := by
        rw [hv]
        exact Lib.hid ((HI4.out.more (v := ⟨ci, ct, sp, cR, cc, cl⟩) hc9 HO4.out).alloc _)
      have HX7 : Hid (∀ j u, (cellsV [v])[j]? = some u → (w4.alloc (.cells #[.int .i64 ci, .int .i64 ct, .int .i64 sp.1, .int .i64 sp.2, .slice cR cl.length cc] 64)).cell? ((⟨w4.heap.size, 0, none⟩ : Addr).add j) = some u) := by rw [hv]; exact Lib.hid (cells_oneV w4 ⟨ci, ct, sp, cR, cc, cl⟩)
      have HZ : Hid (∀ b, (Value.slice (some ⟨gb, 0, none⟩) L.length cap).ownBlock = some b → w.heap.size ≤ b) := Lib.hid fun b e => by have : gb = b := Option.some.inj e; omega
      have HSZ : Hid (w.heap.size ≤ (w4.alloc (.cells #[.int .i64 ci, .int .i64 ct, .int .i64 sp.1, .int .i64 sp.2, .slice cR cl.length cc] 64)).heap.size) := Lib.hid HG5.out.size
      have hll : (L ++ [v]).length = L.length + 1 := by simp
      clear hv HR4 HC4 HG4 HI4 HO4
      go_wp2_with (at_builtin; go_loud (refine wpList_append_own _ rfl _ _ 72 rfl w.heap.size 64 i0 (.agg #[.int .i64 0, .int .i64 0, .int .i64 0, .int .i64 0, .slice none 0 0]) 5 56 Try.underlying72 HI.out.1 HI.out.2.1 HI.out.2.2.1 HI.out.2.2.2 rfl (by decide) _ _ _ rfl HR5.out ⟨w4.heap.size, 0, none⟩ 1 1 (cellsV [v]) rfl rfl HX7.out (cellsV_one [v]) (by unfold maxLen; omega) (by omega) HSZ.out ?_; intro v2 w5 hown' hgrow hne; have HN6 := Lib.hid (RK.more hown'); have HGR := Lib.hid hgrow; have HNE := Lib.hid hne; clear hown' hgrow hne))
      have hv2 : v2 ≠ .slice none 0 0 := fun e => by have := (HNE.out.1 e).2; omega
      obtain ⟨gb2, cap2, rfl, hgb2, _⟩ := HN6.out.slice hv2
      have HC6 := Lib.hid (HC5.out.past hgl HGR.out HZ.out)
      have HG6 := Lib.hid (grown_past HG5.out HGR.out HZ.out)
      have HI6 := Lib.hid (HI5.out.append HR5.out HGR.out)
      clear HC5 HG5 HI5 HR5 HX7 HGR HNE HZ HSZ hv2
      refine (among_at AnyI _ _ _ _ _ _ _ 3 [1, 60, 200] _ HC6.out rfl (by omega) (by decide) (by decide) (fun _ _ => trivial)).mono ?_
      rintro e w6 ⟨d1, _, rfl, hc, hg⟩
      have HC7 := Lib.hid hc
      have HG7 := Lib.hid (grown_trans HG6.out hg)
      have HR7 := Lib.hid (HN6.out.draw hg hgl)
      have HI7 := Lib.hid (HI6.out.draw hg hgl)
      clear hc hg HC6 HG6 HN6 HI6
      go_wp2_with fail
      refine (pick_any _ _ _ _ _ _ 80 _ HC7.out (by omega) (by decide) (by decide)).mono ?_
      rintro e w8 ⟨d2, hd2, rfl, hc, hg⟩
      have HC8 := Lib.hid hc
      have HG8 := Lib.hid (grown_trans HG7.out hg)
      have HR8 := Lib.hid (HR7.out.draw hg hgl)
      have HI8 := Lib.hid (HI7.out.draw hg hgl)
      clear hc hg HC7 HG7 HR7 HI7
      go_wp2_with fail
      go_roundw
      case rel => exact ⟨L ++ [v], gb2, cap2, _, r - 1, _, by omega, by omega, hgb2, by first | rfl | rw [hll], rfl, by go_num, HI8, HR8, HC8, HG8⟩
      case measure => simp [intOf]; omega
end Go.Proofs.Ytdmnkmdlochogab
