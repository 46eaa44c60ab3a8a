/-
  Craft that are drawn: contracts of spec.l1Cur.fleet, craftId, depth5 over this translation. Conditions: stated at each theorem.
-/
import Derived.Test.YtfffahkommbheaaRv
import Derived.Test.YtfffahkommbheaaVr
import Derived.Test.YtfffahkommbheaaVx
import Derived.Laws.IdiomStrings
namespace Go.Proofs.Ytfffahkommbheaa
open Go.RowKit Go.Sort

/-- A row of the call's own that holds the craft L. -/
def RW (base : Nat) (L : List CC) (v : Value) (W : World) : Prop := W.ownsRow base 31 7 v L.length (cellsC L)
theorem RW.new (W : World) : RW W.heap.size [] (.slice (some ⟨W.heap.size, 0, none⟩) 0 0) (W.alloc (.cells #[] 31)) :=
  World.ownsRow_made (base := W.heap.size) (e := 31) (size := 7) W #[] 0 (Nat.le_refl _) (by unfold maxLen; omega) (by simp)
theorem RW.low {base base' : Nat} {L : List CC} {v : Value} {W : World} (h : RW base L v W) (hb : base' ≤ base) : RW base' L v W := own_base h hb
theorem RW.draw {base : Nat} {L : List CC} {v : Value} {W W' : World} {g : Nat} (h : RW base L v W) (hg : W.grownBy W' (some g)) (hb : g < base) : RW base L v W' := own_any h hg (fun i e => by have := Option.some.inj e; omega)
theorem RW.alloc {base : Nat} {L : List CC} {v : Value} {W : World} (h : RW base L v W) (o : Obj) : RW base L v (W.alloc o) := World.ownsRow.alloc h o
theorem RW.past {base : Nat} {L : List CC} {v : Value} {W0 W W' : World} {r : Option Nat} (h0 : RW base L v W0) (h : RW base L v W) (hg : W.grownBy W' r) (hr : ∀ b, r = some b → W0.heap.size ≤ b) : RW base L v W' := by
  refine World.ownsRow.kept h hg ?_
  by_cases e : v.ownBlock = none
  · exact .inl e
  · refine .inr fun e2 => ?_
    obtain ⟨b, hb⟩ := Option.ne_none_iff_exists'.1 e
    have h1 := (World.ownsRow.lt h0 b hb).2
    have h2 := hr b (e2.symm.trans hb)
    omega
theorem grown_of_below {W W' : World} (h : Below W.heap.size W W') (r : Option Nat) : W.grownBy W' r := ⟨h.os, h.tape, h.output, h.size, fun k hk _ => h.block k hk⟩
theorem RW.below {base : Nat} {L : List CC} {v : Value} {W W' : World} (h : RW base L v W) (hb : Below W.heap.size W W') : RW base L v W' := own_below h hb
theorem RW.slice {base : Nat} {L : List CC} {v : Value} {W : World} (h : RW base L v W) (hn : v ≠ .slice none 0 0) : ∃ gb cap, v = .slice (some ⟨gb, 0, none⟩) L.length cap ∧ base ≤ gb ∧ gb < W.heap.size := by
  rcases h.2 with ⟨e, _⟩ | ⟨gb, cap, cur, hv, hb, hc, _⟩
  · exact absurd e hn
  · exact ⟨gb, cap, hv, hb, (Array.getElem?_eq_some_iff.1 hc).1⟩
theorem RW.cells {base : Nat} {L : List CC} {gb cap m : Nat} {W : World} (h : RW base L (.slice (some ⟨gb, 0, none⟩) m cap) W) : ∀ j u, (cellsC L)[j]? = some u → W.cell? ((⟨gb, 0, none⟩ : Addr).add j) = some u := World.ownsRow.cells h rfl
theorem RW.more {base : Nat} {L M : List CC} {v : Value} {W : World} (h : W.ownsRow base 31 7 v (L.length + M.length) (cellsC L ++ cellsC M)) : RW base (L ++ M) v W := by
  unfold RW
  have e : cellsC (L ++ M) = cellsC L ++ cellsC M := by simp [cellsC]
  rw [List.length_append, e]
  exact h
theorem RW.crafts {base : Nat} {L : List CC} {gb cap : Nat} {W : World} (h : RW base L (.slice (some ⟨gb, 0, none⟩) L.length cap) W) (hz : ∀ v ∈ L, v.nm.size ≤ maxLen) : Crafts W W.heap.size (some ⟨gb, 0, none⟩) L.length L :=
  crafts_of_fill (fillC_row h rfl) rfl hz
theorem Cur.past {B : Nat} {A : Option Addr} {n c g k : Nat} {w W W' : World} {r : Option Nat} (h : Cur B A n c g k W) (hgw : g < w.heap.size) (hg : W.grownBy W' r) (hr : ∀ b, r = some b → w.heap.size ≤ b) : Cur B A n c g k W' :=
  h.kept hg (fun e => by have := hr g e.symm; omega) (fun i e => by have := hr i e; have := h.old; omega)
theorem grown_past {w W W' : World} {g : Nat} {r : Option Nat} (h : w.grownBy W (some g)) (hg : W.grownBy W' r) (hr : ∀ b, r = some b → w.heap.size ≤ b) : w.grownBy W' (some g) :=
  ⟨hg.os.trans h.os, hg.tape.trans h.tape, hg.output.trans h.output, Nat.le_trans h.size hg.size, fun i hi hne => (hg.block i (Nat.lt_of_lt_of_le hi h.size) (fun e => by have := hr i e.symm; omega)).trans (h.block i hi hne)⟩
def Names (L : List CC) : Prop := ∀ v ∈ L, v.nm.size ≤ 11
theorem Names.max {L : List CC} (h : Names L) : ∀ v ∈ L, v.nm.size ≤ maxLen := fun v hv => by have := h v hv; unfold maxLen; omega
theorem Names.more {L : List CC} {v : CC} (h : Names L) (hv : v.nm.size ≤ 11) : Names (L ++ [v]) := fun u hu => by
  rcases List.mem_append.1 hu with h1 | h1
  · exact h u h1
  · rw [List.mem_singleton.1 h1]; exact hv
theorem cells_one7 (w : World) (v : CC) : ∀ j u, (cellsC [v])[j]? = some u → (w.alloc (.cells #[.int .i64 v.id, .string v.nm, .int .i64 v.dr, .int .i64 v.ah, .int .i64 v.be, .int .i64 v.sp, .int .i64 v.fu] 31)).cell? ((⟨w.heap.size, 0, none⟩ : Addr).add j) = some u := by
  intro j u hu
  have h := Has.new w #[.int .i64 v.id, .string v.nm, .int .i64 v.dr, .int .i64 v.ah, .int .i64 v.be, .int .i64 v.sp, .int .i64 v.fu] 31
  have he : cellsC [v] = [.int .i64 v.id, .string v.nm, .int .i64 v.dr, .int .i64 v.ah, .int .i64 v.be, .int .i64 v.sp, .int .i64 v.fu] := rfl
  have hadd : (⟨w.heap.size, 0, none⟩ : Addr).add j = ⟨w.heap.size, j, none⟩ := by unfold Addr.add; split <;> simp_all
  rw [hadd]
  exact h.2.1 j u (by rw [he] at hu; simpa using hu)
/-- What fleet hands back. -/
def FleetPost (B : Nat) (A : Option Addr) (n c g k : Nat) (w : World) (e : Ending) (w' : World) : Prop :=
  ∃ (L : List CC) (gb cap k' : Nat), L.length ≤ 7 ∧ Names L ∧ k ≤ k' ∧ k' ≤ k + 100 ∧ w.heap.size ≤ gb ∧ e = .returned (.slice (some ⟨gb, 0, none⟩) L.length cap) ∧ RW w.heap.size L (.slice (some ⟨gb, 0, none⟩) L.length cap) w' ∧ Cur B A n c g k' w' ∧ w.grownBy w' (some g)
set_option maxRecDepth 100000 in
set_option maxHeartbeats 6400000 in
theorem fleet_any (B : Nat) (A : Option Addr) (n c g k : Nat) (w : World) (h : Cur B A n c g k w) (hk : k < 800000) :
    Calls Try.prog 80 #[.pointer (some ⟨g, 0, none⟩)] w (FleetPost B A n c g k w) := by
  obtain ⟨i0, hi, hz0, hz1, hz2⟩ := info_parts infoCraft
  have HI := Lib.hid (And.intro hi (And.intro hz0 (And.intro hz1 hz2)))
  clear hi hz0 hz1 hz2
  have hgl := h.lt
  have HC0 := Lib.hid (h.alloc (.cells #[] 31))
  have HG0 : Hid (w.grownBy (w.alloc (.cells #[] 31)) (some g)) := Lib.hid (World.grownBy_alloc _ _ _)
  have HR0 := Lib.hid (RW.new w)
  clear h
  go_enter Try.func80, Try.ntmps80
  go_wp2_with fail
  refine (pick_any _ _ _ _ _ _ 6 _ HC0.out (by omega) (by decide) (by decide)).mono ?_
  rintro e w1 ⟨q, hq, rfl, hc, hg⟩
  have HC1 := Lib.hid hc
  have HG1 := Lib.hid (grown_trans HG0.out hg)
  have HR1 := Lib.hid (HR0.out.draw hg hgl)
  clear hc hg HC0 HG0 HR0
  go_wp2_with fail
  go_loopw [3, 4, 5] (fun s x i wr => ∃ (L : List CC) (gb cap k' r : Nat) (y : Int), L.length + r ≤ 5 ∧ k ≤ k' ∧ k' + 10 * r ≤ k + 60 ∧ 0 ≤ y ∧ y + 3 * r ≤ 20 ∧ w.heap.size ≤ gb ∧ s = .slice (some ⟨gb, 0, none⟩) L.length cap ∧ x = .int .i64 y ∧ i = .int .i64 r ∧ Hid (Names L) ∧ Hid (RW w.heap.size L (.slice (some ⟨gb, 0, none⟩) L.length cap) wr) ∧ Hid (Cur B A n c g k' wr) ∧ Hid (w.grownBy wr (some g))) (fun _ _ i _ => (intOf i).toNat)
  case atStart => exact ⟨[], w.heap.size, 0, k + 1, q, 0, by simp; omega, by omega, by omega, by omega, by omega, Nat.le_refl _, rfl, rfl, rfl, Lib.hid (fun v hv => by cases hv), HR1, HC1, HG1⟩
  case round =>
    obtain ⟨L, gb, cap, k', r, y, hr5, hk1, hk2, hy0, hy1, hgb, rfl, rfl, rfl, hN, hR, hC, hG⟩ := hrel
    rcases Nat.eq_zero_or_pos r with h0 | h0
    · subst h0
      go_wp2_with fail
      refine (one_any _ _ _ _ _ _ 24 _ hC.out (by omega) (by decide) (by decide)).mono ?_
      rintro e w2 ⟨b, rfl, hc, hg⟩
      have HC2 := Lib.hid hc
      have HG2 := Lib.hid (grown_trans hG.out hg)
      have HR2 := Lib.hid (hR.out.draw hg hgl)
      clear hc hg hC hG hR
      rcases b with _ | _
      · go_wp2_with fail
        go_ret
        exact ⟨L, gb, cap, _, by omega, hN.out, by omega, by omega, hgb, rfl, HR2.out, HC2.out, HG2.out⟩
      · have HR3 := Lib.hid ((RW.new w2).low HG2.out.size)
        have HC3 := Lib.hid (HC2.out.alloc (.cells #[] 31))
        have HG3 := Lib.hid (grown_trans HG2.out (World.grownBy_alloc w2 (.cells #[] 31) (some g)))
        have hgb2 : w.heap.size ≤ w2.heap.size := HG2.out.size
        clear HR2 HC2 HG2
        go_wp2_with fail
        go_loopw [3, 7] (fun s i wr => ∃ (L : List CC) (gb cap k' : Nat), L.length ≤ 7 ∧ k ≤ k' ∧ k' ≤ k + 70 + L.length ∧ w.heap.size ≤ gb ∧ s = .slice (some ⟨gb, 0, none⟩) L.length cap ∧ i = .int .i64 L.length ∧ Hid (Names L) ∧ Hid (RW w.heap.size L (.slice (some ⟨gb, 0, none⟩) L.length cap) wr) ∧ Hid (Cur B A n c g k' wr) ∧ Hid (w.grownBy wr (some g))) (fun _ i _ => 7 - (intOf i).toNat)
        case atStart => exact ⟨[], w2.heap.size, 0, _, by simp, by omega, by simp; omega, hgb2, rfl, rfl, Lib.hid (fun v hv => by cases hv), HR3, HC3, HG3⟩
        case round =>
          obtain ⟨L, gb, cap, k', hl7, hk1, hk2, hgb, rfl, rfl, hN, hR, hC, hG⟩ := hrel
          go_wp2_with fail
          refine (pick_any _ _ _ _ _ _ 2 _ hC.out (by omega) (by decide) (by decide)).mono ?_
          rintro e w3 ⟨u, hu, rfl, hc, hg⟩
          have HC4 := Lib.hid hc
          have HG4 := Lib.hid (grown_trans hG.out hg)
          have HR4 := Lib.hid (hR.out.draw hg hgl)
          clear hc hg hC hG hR
          by_cases hlt : (L.length : Int) < 6 + u
          · obtain ⟨d, hdd⟩ : ∃ d : UInt8, d = UInt8.ofNat (97 + L.length) := ⟨_, rfl⟩
            have hd : (d.toNat : Int) = 97 + (L.length : Int) := by rw [hdd, UInt8.toNat_ofNat']; omega
            have hback : (convert 22 9 (.slice (some ⟨w3.heap.size, 0, none⟩) 1 1)).run Try.prog (w3.alloc (.cells #[.int .u8 (97 + (L.length : Int))] 5)) = .ok (.string ⟨#[d]⟩) (w3.alloc (.cells #[.int .u8 (97 + (L.length : Int))] 5)) := by
              refine run_convert_bytes_back (P := Try.prog) _ 22 9 5 ⟨w3.heap.size, 0, none⟩ 1 [d] Try.underlying22 Try.underlying5 Try.underlying9 (fun j hj => ?_)
              obtain rfl : j = 0 := by simpa using hj
              rw [← hd]
              exact (box1 (Below.refl _ _)).2.at_ 0 _ rfl
            have HR5 := Lib.hid ((HR4.out.alloc (.cells #[.int .u8 (97 + (L.length : Int))] 5)).alloc (.cells #[.int .i64 ((L.length : Int) + 1), .string ⟨#[d]⟩, .int .i64 50, .int .i64 0, .int .i64 0, .int .i64 (10 + (L.length : Int)), .int .i64 0] 31))
            have HC5 := Lib.hid ((HC4.out.alloc (.cells #[.int .u8 (97 + (L.length : Int))] 5)).alloc (.cells #[.int .i64 ((L.length : Int) + 1), .string ⟨#[d]⟩, .int .i64 50, .int .i64 0, .int .i64 0, .int .i64 (10 + (L.length : Int)), .int .i64 0] 31))
            have HG5 := Lib.hid (grown_trans (grown_trans HG4.out (World.grownBy_alloc w3 (.cells #[.int .u8 (97 + (L.length : Int))] 5) (some g))) (World.grownBy_alloc (w3.alloc (.cells #[.int .u8 (97 + (L.length : Int))] 5)) (.cells #[.int .i64 ((L.length : Int) + 1), .string ⟨#[d]⟩, .int .i64 50, .int .i64 0, .int .i64 0, .int .i64 (10 + (L.length : Int)), .int .i64 0] 31) (some g)))
            obtain ⟨v, hv⟩ : ∃ v : CC, v = ⟨(L.length : Int) + 1, ⟨#[d]⟩, 50, 0, 0, 10 + (L.length : Int), 0⟩ := ⟨_, rfl⟩
            have hvn : v.nm.size ≤ 11 := by rw [hv]; exact (show (1 : Nat) ≤ 11 by decide)
            have HX7 : Hid (∀ j u, (cellsC [v])[j]? = some u → ((w3.alloc (.cells #[.int .u8 (97 + (L.length : Int))] 5)).alloc (.cells #[.int .i64 ((L.length : Int) + 1), .string ⟨#[d]⟩, .int .i64 50, .int .i64 0, .int .i64 0, .int .i64 (10 + (L.length : Int)), .int .i64 0] 31)).cell? ((⟨(w3.alloc (.cells #[.int .u8 (97 + (L.length : Int))] 5)).heap.size, 0, none⟩ : Addr).add j) = some u) := by rw [hv]; exact Lib.hid (cells_one7 (w3.alloc (.cells #[.int .u8 (97 + (L.length : Int))] 5)) ⟨(L.length : Int) + 1, ⟨#[d]⟩, 50, 0, 0, 10 + (L.length : Int), 0⟩)
            rw [World.size_alloc] at HX7
            have HZ : Hid (∀ b, (Value.slice (some ⟨gb, 0, none⟩) L.length cap).ownBlock = some b → w.heap.size ≤ b) := Lib.hid fun b e => by have : gb = b := Option.some.inj e; omega
            have HSZ : Hid (w.heap.size ≤ ((w3.alloc (.cells #[.int .u8 (97 + (L.length : Int))] 5)).alloc (.cells #[.int .i64 ((L.length : Int) + 1), .string ⟨#[d]⟩, .int .i64 50, .int .i64 0, .int .i64 0, .int .i64 (10 + (L.length : Int)), .int .i64 0] 31)).heap.size) := Lib.hid HG5.out.size
            have HNM := Lib.hid (hN.out.more hvn)
            have hll : (L ++ [v]).length = L.length + 1 := by simp
            clear hd hdd hv
            go_wp2_with (at_builtin; go_loud (refine wpList_append_own _ rfl _ _ 24 rfl w.heap.size 31 i0 (.agg #[.int .i64 0, .string ⟨#[]⟩, .int .i64 0, .int .i64 0, .int .i64 0, .int .i64 0, .int .i64 0]) 7 64 Try.underlying24 HI.out.1 HI.out.2.1 HI.out.2.2.1 HI.out.2.2.2 rfl (by decide) _ _ _ rfl HR5.out ⟨w3.heap.size + 1, 0, none⟩ 1 1 (cellsC [v]) rfl rfl HX7.out (cellsC_one [v]) (by unfold maxLen; omega) (by omega) HSZ.out ?_; intro v2 w5 hown' hgrow hne; have HN6 := Lib.hid (RW.more hown'); have HGR := Lib.hid hgrow; have HNE := Lib.hid hne; clear hown' hgrow hne))
            have hv2 : v2 ≠ .slice none 0 0 := fun e => by have := (HNE.out.1 e).2; omega
            obtain ⟨gb2, cap2, rfl, hgb2, _⟩ := HN6.out.slice hv2
            have HC6 := Lib.hid (HC5.out.past hgl HGR.out HZ.out)
            have HG6 := Lib.hid (grown_past HG5.out HGR.out HZ.out)
            go_roundw
            case rel => exact ⟨L ++ [v], gb2, cap2, _, by omega, by omega, by omega, hgb2, rfl, by rw [hll]; go_num, HNM, HN6, HC6, HG6⟩
            case measure => simp [intOf]; omega
          · go_wp2_with fail
            go_ret
            exact ⟨L, gb, cap, _, by omega, hN.out, by omega, by omega, hgb, rfl, HR4.out, HC4.out, HG4.out⟩
    · go_wp2_with fail
      refine (pick_any _ _ _ _ _ _ 3 _ hC.out (by omega) (by decide) (by decide)).mono ?_
      rintro e w2 ⟨u, hu, rfl, hc, hg⟩
      have HC2 := Lib.hid hc
      have HG2 := Lib.hid (grown_trans hG.out hg)
      have HR2 := Lib.hid (hR.out.draw hg hgl)
      clear hc hg hC hG hR
      have hs2 : w.heap.size ≤ w2.heap.size := HG2.out.size
      have HX := Lib.hid (HR2.out.alloc (.cells #[] 31)).cells
      have HP := Lib.hid (RW.new w2)
      have HZ : Hid (∀ b, (Value.slice (some ⟨w2.heap.size, 0, none⟩) 0 0).ownBlock = some b → w2.heap.size ≤ b) := Lib.hid fun b e => by have : w2.heap.size = b := Option.some.inj e; omega
      go_wp2_with (at_builtin; go_loud (refine wpList_append_own _ rfl _ _ 24 rfl w2.heap.size 31 i0 (.agg #[.int .i64 0, .string ⟨#[]⟩, .int .i64 0, .int .i64 0, .int .i64 0, .int .i64 0, .int .i64 0]) 7 64 Try.underlying24 HI.out.1 HI.out.2.1 HI.out.2.2.1 HI.out.2.2.2 rfl (by decide) _ _ _ rfl HP.out ⟨gb, 0, none⟩ L.length cap (cellsC L) rfl (cellsC_len L) HX.out (cellsC_one L) (by simp only [List.length_nil]; unfold maxLen; omega) (by simp only [List.length_nil]; omega) (by simp) ?_; intro v' w3 hown' hgrow hne; have HN3 := Lib.hid (RW.more hown'); have HGR := Lib.hid hgrow; have HNE := Lib.hid hne; clear hown' hgrow hne))
      have hn3 := HN3.out
      rw [List.nil_append] at hn3
      have HN3' := Lib.hid hn3
      clear hn3 HN3 HX HP HNE
      have HV3 : Hid (∀ b, v'.ownBlock = some b → w2.heap.size ≤ b) := Lib.hid fun b e => (World.ownsRow.lt HN3'.out b e).1
      have hw23 : w2.heap.size ≤ w3.heap.size := by have := HGR.out.size; simp at this; omega
      have HR3 := Lib.hid ((HR2.out).past (HR2.out.alloc (.cells #[] 31)) HGR.out HZ.out)
      have HC3 := Lib.hid ((HC2.out.alloc (.cells #[] 31)).past hgl HGR.out (fun b e => Nat.le_trans hs2 (HZ.out b e)))
      have HG3 := Lib.hid (grown_past (grown_trans HG2.out (World.grownBy_alloc w2 (.cells #[] 31) (some g))) HGR.out (fun b e => Nat.le_trans hs2 (HZ.out b e)))
      clear HC2 HG2 HGR HZ
      refine (craft_any _ _ _ _ _ _ _ _ HC3.out (by omega)).mono ?_
      rintro e w4 ⟨v, k4, hk3, hk4, hvn, rfl, hc, hg⟩
      have HC4 := Lib.hid hc
      have HG4 := Lib.hid (grown_trans HG3.out hg)
      have HR4 := Lib.hid (HR3.out.draw hg hgl)
      have HN4 := Lib.hid (HN3'.out.draw hg (by omega))
      have HS34 : Hid (w2.heap.size ≤ w4.heap.size) := Lib.hid (Nat.le_trans hw23 hg.size)
      clear hc hg HC3 HG3 HR3 HN3'
      have HNA := Lib.hid (HN4.out.alloc (.cells #[.int .i64 v.id, .string v.nm, .int .i64 v.dr, .int .i64 v.ah, .int .i64 v.be, .int .i64 v.sp, .int .i64 v.fu] 31))
      have HX7 := Lib.hid (cells_one7 w4 v)
      have HS4 : Hid (w2.heap.size ≤ (w4.alloc (.cells #[.int .i64 v.id, .string v.nm, .int .i64 v.dr, .int .i64 v.ah, .int .i64 v.be, .int .i64 v.sp, .int .i64 v.fu] 31)).heap.size) := Lib.hid (by have := HS34.out; simp; omega)
      go_wp2_with (at_builtin; go_loud (refine wpList_append_own _ rfl _ _ 24 rfl w2.heap.size 31 i0 (.agg #[.int .i64 0, .string ⟨#[]⟩, .int .i64 0, .int .i64 0, .int .i64 0, .int .i64 0, .int .i64 0]) 7 64 Try.underlying24 HI.out.1 HI.out.2.1 HI.out.2.2.1 HI.out.2.2.2 rfl (by decide) _ _ _ rfl HNA.out ⟨w4.heap.size, 0, none⟩ 1 1 (cellsC [v]) rfl rfl HX7.out (cellsC_one [v]) (by unfold maxLen; omega) (by omega) HS4.out ?_; intro v2 w5 hown' hgrow hne; have HN5 := Lib.hid (RW.more hown'); have HGR := Lib.hid hgrow; have HNE := Lib.hid hne; clear hown' hgrow hne))
      have hv2 : v2 ≠ .slice none 0 0 := fun e => by have := (HNE.out.1 e).2; omega
      obtain ⟨gb2, cap2, rfl, hgb2, _⟩ := HN5.out.slice hv2
      have HR5 := Lib.hid ((HR2.out).past (HR4.out.alloc (.cells #[.int .i64 v.id, .string v.nm, .int .i64 v.dr, .int .i64 v.ah, .int .i64 v.be, .int .i64 v.sp, .int .i64 v.fu] 31)) HGR.out HV3.out)
      have HC5 := Lib.hid ((HC4.out.alloc (.cells #[.int .i64 v.id, .string v.nm, .int .i64 v.dr, .int .i64 v.ah, .int .i64 v.be, .int .i64 v.sp, .int .i64 v.fu] 31)).past hgl HGR.out (fun b e => Nat.le_trans hs2 (HV3.out b e)))
      have HG5 := Lib.hid (grown_past (grown_trans HG4.out (World.grownBy_alloc w4 (.cells #[.int .i64 v.id, .string v.nm, .int .i64 v.dr, .int .i64 v.ah, .int .i64 v.be, .int .i64 v.sp, .int .i64 v.fu] 31) (some g))) HGR.out (fun b e => Nat.le_trans hs2 (HV3.out b e)))
      have HNM := Lib.hid (hN.out.more hvn)
      have hll : (L ++ [v]).length = L.length + 1 := by simp
      clear HC4 HG4 HR4 HN4 HNA HX7 HGR HNE HV3 hv2
      refine (goodC_spec _ _ _ (L ++ [v]) _ (HN5.out.crafts HNM.out.max) (by unfold maxLen; omega)).mono ?_
      rintro e w6 ⟨rfl, hb⟩
      have HR6 := Lib.hid (HR5.out.below hb)
      have HN6 := Lib.hid ((HN5.out.below hb).low hs2)
      have HC6 := Lib.hid (HC5.out.past hgl (grown_of_below hb none) (fun b e => by cases e))
      have HG6 := Lib.hid (grown_past HG5.out (grown_of_below hb none) (fun b e => by cases e))
      clear hb HR5 HN5 HC5 HG5
      have hgb3 : w.heap.size ≤ gb2 := Nat.le_trans hs2 hgb2
      rcases hgd : areC (L ++ [v]) with _ | _
      · go_wp2_with fail
        refine (one_any _ _ _ _ _ _ 40 _ HC6.out (by omega) (by decide) (by decide)).mono ?_
        rintro e w7 ⟨b, rfl, hc, hg⟩
        have HC7 := Lib.hid hc
        have HG7 := Lib.hid (grown_trans HG6.out hg)
        have HR7 := Lib.hid (HR6.out.draw hg hgl)
        have HN7 := Lib.hid (HN6.out.draw hg hgl)
        clear hc hg HC6 HG6 HR6 HN6
        rcases b with _ | _
        · go_wp2_with fail
          go_roundw
          case rel => exact ⟨L, gb, cap, _, r - 1, y + 1 + u, by omega, by omega, by omega, by omega, by omega, hgb, rfl, rfl, by go_num, hN, HR7, HC7, HG7⟩
          case measure => simp [intOf]; omega
        · go_wp2_with fail
          go_roundw
          case rel => exact ⟨L ++ [v], gb2, cap2, _, r - 1, y + 1 + u, by omega, by omega, by omega, by omega, by omega, hgb3, by first | rfl | rw [hll], rfl, by go_num, HNM, HN7, HC7, HG7⟩
          case measure => simp [intOf]; omega
      · go_wp2_with fail
        go_roundw
        case rel => exact ⟨L ++ [v], gb2, cap2, _, r - 1, y + 1 + u, by omega, by omega, by omega, by omega, by omega, hgb3, by first | rfl | rw [hll], rfl, by go_num, HNM, HN6, HC6, HG6⟩
        case measure => simp [intOf]; omega
end Go.Proofs.Ytfffahkommbheaa
