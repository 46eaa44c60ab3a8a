/-
  Soundings that are drawn: contract of spec.l1Cur.soundings over this translation. Conditions: stated at each theorem.
-/
import Derived.Test.YtdmnkmdlochogaaRa
import Derived.Test.YtdmnkmdlochogaaRt
import Derived.Test.YtdmnkmdlochogaaQr
import Derived.Laws.IdiomStrings
namespace Go.Proofs.Ytdmnkmdlochogaa
open Go.RowKit Go.Sort

theorem cellsS_one (L : List SD) : ∀ u ∈ cellsS L, u.oneCell' = true := by
  intro u hu
  simp only [cellsS, List.mem_flatMap, List.mem_cons, List.not_mem_nil, or_false] at hu
  obtain ⟨p, _, rfl | rfl | rfl | rfl | rfl⟩ := hu <;> rfl
/-- A row of the call's own that holds the soundings L. -/
def RS (base : Nat) (L : List SD) (v : Value) (W : World) : Prop := W.ownsRow base 75 5 v L.length (cellsS L)
theorem RS.new (W : World) : RS W.heap.size [] (.slice (some ⟨W.heap.size, 0, none⟩) 0 0) (W.alloc (.cells #[] 75)) :=
  World.ownsRow_made (base := W.heap.size) (e := 75) (size := 5) W #[] 0 (Nat.le_refl _) (by unfold maxLen; omega) (by simp)
theorem RS.low {base base' : Nat} {L : List SD} {v : Value} {W : World} (h : RS base L v W) (hb : base' ≤ base) : RS base' L v W := own_base h hb
theorem RS.draw {base : Nat} {L : List SD} {v : Value} {W W' : World} {g : Nat} (h : RS base L v W) (hg : W.grownBy W' (some g)) (hb : g < base) : RS base L v W' := own_any h hg (fun i e => by have := Option.some.inj e; omega)
theorem RS.alloc {base : Nat} {L : List SD} {v : Value} {W : World} (h : RS base L v W) (o : Obj) : RS base L v (W.alloc o) := World.ownsRow.alloc h o
theorem RS.past {base : Nat} {L : List SD} {v : Value} {W0 W W' : World} {r : Option Nat} (h0 : RS base L v W0) (h : RS base L v W) (hg : W.grownBy W' r) (hr : ∀ b, r = some b → W0.heap.size ≤ b) : RS base L v W' := by
  refine World.ownsRow.kept h hg ?_
  by_cases e : v.ownBlock = none
  · exact .inl e
  · refine .inr fun e2 => ?_
    obtain ⟨b, hb⟩ := Option.ne_none_iff_exists'.1 e
    have h1 := (World.ownsRow.lt h0 b hb).2
    have h2 := hr b (e2.symm.trans hb)
    omega
theorem RS.below {base : Nat} {L : List SD} {v : Value} {W W' : World} (h : RS base L v W) (hb : Below W.heap.size W W') : RS base L v W' := own_below h hb
theorem RS.slice {base : Nat} {L : List SD} {v : Value} {W : World} (h : RS base L v W) (hn : v ≠ .slice none 0 0) : ∃ gb cap, v = .slice (some ⟨gb, 0, none⟩) L.length cap ∧ base ≤ gb ∧ gb < W.heap.size := by
  rcases h.2 with ⟨e, _⟩ | ⟨gb, cap, cur, hv, hb, hc, _⟩
  · exact absurd e hn
  · exact ⟨gb, cap, hv, hb, (Array.getElem?_eq_some_iff.1 hc).1⟩
theorem RS.cells {base : Nat} {L : List SD} {gb cap m : Nat} {W : World} (h : RS base L (.slice (some ⟨gb, 0, none⟩) m cap) W) : ∀ j u, (cellsS L)[j]? = some u → W.cell? ((⟨gb, 0, none⟩ : Addr).add j) = some u := World.ownsRow.cells h rfl
theorem RS.more {base : Nat} {L M : List SD} {v : Value} {W : World} (h : W.ownsRow base 75 5 v (L.length + M.length) (cellsS L ++ cellsS M)) : RS base (L ++ M) v W := by
  unfold RS
  have e : cellsS (L ++ M) = cellsS L ++ cellsS M := by simp [cellsS]
  rw [List.length_append, e]
  exact h
theorem cells_one5 (w : World) (v : SD) : ∀ j u, (cellsS [v])[j]? = some u → (w.alloc (.cells #[.int .i64 v.id, .int .i64 v.x, .int .i64 v.y, .int .i64 v.dep, .int .i64 v.dbt] 75)).cell? ((⟨w.heap.size, 0, none⟩ : Addr).add j) = some u := by
  intro j u hu
  have h := Has.new w #[.int .i64 v.id, .int .i64 v.x, .int .i64 v.y, .int .i64 v.dep, .int .i64 v.dbt] 75
  have he : cellsS [v] = [.int .i64 v.id, .int .i64 v.x, .int .i64 v.y, .int .i64 v.dep, .int .i64 v.dbt] := rfl
  have hadd : (⟨w.heap.size, 0, none⟩ : Addr).add j = ⟨w.heap.size, j, none⟩ := by unfold Addr.add; split <;> simp_all
  rw [hadd]
  exact h.2.1 j u (by rw [he] at hu; simpa using hu)
theorem RS.sds {base : Nat} {L : List SD} {gb cap : Nat} {W : World} (h : RS base L (.slice (some ⟨gb, 0, none⟩) L.length cap) W) : Sds W W.heap.size (some ⟨gb, 0, none⟩) L.length L :=
  sds_of_fill (fillS_row h rfl) rfl
def Ids (L : List SD) : Prop := ∀ v ∈ L, 0 ≤ v.id ∧ v.id ≤ 1000
theorem ids_nil : Ids [] := fun v hv => by cases hv
theorem ids_more {L : List SD} {v : SD} (h : Ids L) (hv : 0 ≤ v.id ∧ v.id ≤ 1000) : Ids (L ++ [v]) := fun u hu => by
  rcases List.mem_append.1 hu with h1 | h1
  · exact h u h1
  · rw [List.mem_singleton.1 h1]; exact hv
def lenOfV : Value → Nat
  | .slice _ n _ => n
  | _ => 0
/-- What soundings hands back. -/
def SoundsAny (B : Nat) (A : Option Addr) (n c g k : Nat) (w : World) (e : Ending) (w' : World) : Prop :=
  ∃ (L : List SD) (gb cap k' : Nat), L.length ≤ 13 ∧ Ids L ∧ k ≤ k' ∧ k' ≤ k + 120 ∧ w.heap.size ≤ gb ∧ L.length ≤ cap ∧ e = .returned (.slice (some ⟨gb, 0, none⟩) L.length cap) ∧ RS w.heap.size L (.slice (some ⟨gb, 0, none⟩) L.length cap) w' ∧ Cur B A n c g k' w' ∧ w.grownBy w' (some g)
theorem RS.cap {base : Nat} {L : List SD} {gb m cap : Nat} {W : World} (h : RS base L (.slice (some ⟨gb, 0, none⟩) m cap) W) : L.length ≤ cap := by
  rcases h.2 with ⟨e, _⟩ | ⟨g, cap', cur, hv, hb, hc, r⟩
  · cases e
  · injection hv with h1 h2 h3
    subst h3
    exact r.1
set_option maxRecDepth 100000 in
set_option maxHeartbeats 6400000 in
theorem sounds_any (B : Nat) (A : Option Addr) (n c g k : Nat) (w : World) (h : Cur B A n c g k w) (hk : k < 700000) :
    Calls Try.prog 122 #[.pointer (some ⟨g, 0, none⟩)] w (SoundsAny B A n c g k w) := by
  obtain ⟨i0, hi, hz0, hz1, hz2⟩ := info_parts infoSound
  have HI := Lib.hid (And.intro hi (And.intro hz0 (And.intro hz1 hz2)))
  clear hi hz0 hz1 hz2
  have hgl := h.lt
  have HC0 := Lib.hid (h.alloc (.cells #[] 75))
  have HG0 : Hid (w.grownBy (w.alloc (.cells #[] 75)) (some g)) := Lib.hid (World.grownBy_alloc _ _ _)
  have HR0 := Lib.hid (RS.new w)
  clear h
  go_enter Try.func122, Try.ntmps122
  go_wp2_with fail
  go_loopw [3, 4] (fun s i wr => ∃ (L : List SD) (gb cap k' r : Nat), 1 ≤ r ∧ r ≤ 9 ∧ L.length + 1 ≤ r ∧ k ≤ k' ∧ k' ≤ k + 10 * r ∧ w.heap.size ≤ gb ∧ s = .slice (some ⟨gb, 0, none⟩) L.length cap ∧ i = .int .i64 r ∧ Hid (Ids L) ∧ Hid (RS w.heap.size L (.slice (some ⟨gb, 0, none⟩) L.length cap) wr) ∧ Hid (Cur B A n c g k' wr) ∧ Hid (w.grownBy wr (some g))) (fun _ i _ => 9 - (intOf i).toNat)
  case atStart => exact ⟨[], w.heap.size, 0, k, 1, by omega, by omega, by simp, by omega, by omega, Nat.le_refl _, rfl, rfl, Lib.hid ids_nil, HR0, HC0, HG0⟩
  case round =>
    obtain ⟨L, gb, cap, k', r, hr1, hr9, hlr, hk1, hk2, hgb, rfl, rfl, hN, hR, hC, hG⟩ := hrel
    by_cases hlt : r < 9
    · go_wp2_with fail
      refine (one_any _ _ _ _ _ _ 2 _ hC.out (by omega) (by decide) (by decide)).mono ?_
      rintro e w2 ⟨b, rfl, hc, hg⟩
      have HC2 := Lib.hid hc
      have HG2 := Lib.hid (grown_trans hG.out hg)
      have HR2 := Lib.hid (hR.out.draw hg hgl)
      clear hc hg hC hG hR
      rcases b with _ | _
      · go_wp2_with fail
        go_roundw
        case rel => exact ⟨L, gb, cap, _, r + 1, by omega, by omega, by omega, by omega, by omega, hgb, rfl, by go_num, hN, HR2, HC2, HG2⟩
        case measure => simp [intOf]; omega
      · go_wp2_with fail
        refine (sound_any _ _ _ _ _ _ _ _ HC2.out (by omega)).mono ?_
        rintro e w4 ⟨v, k4, hvi, hk3, hk4, rfl, hc, hg⟩
        have HC4 := Lib.hid hc
        have HG4 := Lib.hid (grown_trans HG2.out hg)
        have HR4 := Lib.hid (HR2.out.draw hg hgl)
        have HVI : Hid (0 ≤ v.id ∧ v.id ≤ 1000) := Lib.hid (by rw [hvi]; omega)
        clear hc hg HC2 HG2 HR2 hvi
        have HNA := Lib.hid (HR4.out.alloc (.cells #[.int .i64 v.id, .int .i64 v.x, .int .i64 v.y, .int .i64 v.dep, .int .i64 v.dbt] 75))
        have HX5 := Lib.hid (cells_one5 w4 v)
        have HS4 : Hid (w.heap.size ≤ (w4.alloc (.cells #[.int .i64 v.id, .int .i64 v.x, .int .i64 v.y, .int .i64 v.dep, .int .i64 v.dbt] 75)).heap.size) := Lib.hid (by have := HG4.out.size; simp; omega)
        have HV : Hid (∀ b, (Value.slice (some ⟨gb, 0, none⟩) L.length cap).ownBlock = some b → w.heap.size ≤ b) := Lib.hid fun b e => by have : gb = b := Option.some.inj e; omega
        go_wp2_with (at_builtin; go_loud (refine wpList_append_own _ rfl _ _ 67 rfl w.heap.size 75 i0 (.agg #[.int .i64 0, .int .i64 0, .int .i64 0, .int .i64 0, .int .i64 0]) 5 40 Try.underlying67 HI.out.1 HI.out.2.1 HI.out.2.2.1 HI.out.2.2.2 rfl (by decide) _ _ _ rfl HNA.out ⟨w4.heap.size, 0, none⟩ 1 1 (cellsS [v]) rfl rfl HX5.out (cellsS_one [v]) (by unfold maxLen; omega) (by omega) HS4.out ?_; intro v2 w5 hown' hgrow hne; have HN5 := Lib.hid (RS.more hown'); have HGR := Lib.hid hgrow; have HNE := Lib.hid hne; clear hown' hgrow hne))
        have hv2 : v2 ≠ .slice none 0 0 := fun e => by have := (HNE.out.1 e).2; omega
        obtain ⟨gb2, cap2, rfl, hgb2, _⟩ := HN5.out.slice hv2
        have HC5 := Lib.hid ((HC4.out.alloc (.cells #[.int .i64 v.id, .int .i64 v.x, .int .i64 v.y, .int .i64 v.dep, .int .i64 v.dbt] 75)).past hgl HGR.out HV.out)
        have HG5 := Lib.hid (grown_past (grown_trans HG4.out (World.grownBy_alloc w4 (.cells #[.int .i64 v.id, .int .i64 v.x, .int .i64 v.y, .int .i64 v.dep, .int .i64 v.dbt] 75) (some g))) HGR.out HV.out)
        have HNM := Lib.hid (ids_more hN.out HVI.out)
        have hll : (L ++ [v]).length = L.length + 1 := by simp
        clear HC4 HG4 HR4 HNA HX5 HGR HNE HV hv2
        go_roundw
        case rel => exact ⟨L ++ [v], gb2, cap2, _, r + 1, by omega, by omega, by omega, by omega, by omega, hgb2, by first | rfl | rw [hll], by go_num, HNM, HN5, HC5, HG5⟩
        case measure => simp [intOf]; omega
    · obtain rfl : r = 9 := by omega
      go_wp2_with fail
      refine (pick_any _ _ _ _ _ _ 32 _ hC.out (by omega) (by decide) (by decide)).mono ?_
      rintro e w2 ⟨q, hq, rfl, hc, hg⟩
      have HC2 := Lib.hid hc
      have HG2 := Lib.hid (grown_trans hG.out hg)
      have HR2 := Lib.hid (hR.out.draw hg hgl)
      clear hc hg hC hG hR
      by_cases h0 : q = 0
      · subst h0
        go_wp2_with fail
        refine (among_at (fun x => 0 ≤ x ∧ x ≤ 1000) _ _ _ _ _ _ _ 4 [0, 7, 999, 1000] _ HC2.out rfl (by omega) (by decide) (by decide) (by intro x hx; simp only [List.mem_cons, List.not_mem_nil, or_false] at hx; omega)).mono ?_
        rintro e w3 ⟨x, hx, rfl, hc, hg⟩
        have HC3 := Lib.hid hc
        have HG3 := Lib.hid (grown_trans HG2.out hg)
        have HR3 := Lib.hid (HR2.out.draw hg hgl)
        have HXI := Lib.hid hx
        clear hc hg hx HC2 HG2 HR2
        go_wp2_with fail
        refine (sound_any _ _ _ _ _ _ _ _ HC3.out (by omega)).mono ?_
        rintro e w4 ⟨v, k4, hvi, hk3, hk4, rfl, hc, hg⟩
        have HC4 := Lib.hid hc
        have HG4 := Lib.hid (grown_trans HG3.out hg)
        have HR4 := Lib.hid (HR3.out.draw hg hgl)
        have HVI : Hid (0 ≤ v.id ∧ v.id ≤ 1000) := Lib.hid (by rw [hvi]; exact HXI.out)
        clear hc hg HC3 HG3 HR3 hvi
        have HNA := Lib.hid (HR4.out.alloc (.cells #[.int .i64 v.id, .int .i64 v.x, .int .i64 v.y, .int .i64 v.dep, .int .i64 v.dbt] 75))
        have HX5 := Lib.hid (cells_one5 w4 v)
        have HS4 : Hid (w.heap.size ≤ (w4.alloc (.cells #[.int .i64 v.id, .int .i64 v.x, .int .i64 v.y, .int .i64 v.dep, .int .i64 v.dbt] 75)).heap.size) := Lib.hid (by have := HG4.out.size; simp; omega)
        have HV : Hid (∀ b, (Value.slice (some ⟨gb, 0, none⟩) L.length cap).ownBlock = some b → w.heap.size ≤ b) := Lib.hid fun b e => by have : gb = b := Option.some.inj e; omega
        go_wp2_with (at_builtin; go_loud (refine wpList_append_own _ rfl _ _ 67 rfl w.heap.size 75 i0 (.agg #[.int .i64 0, .int .i64 0, .int .i64 0, .int .i64 0, .int .i64 0]) 5 40 Try.underlying67 HI.out.1 HI.out.2.1 HI.out.2.2.1 HI.out.2.2.2 rfl (by decide) _ _ _ rfl HNA.out ⟨w4.heap.size, 0, none⟩ 1 1 (cellsS [v]) rfl rfl HX5.out (cellsS_one [v]) (by unfold maxLen; omega) (by omega) HS4.out ?_; intro v2 w5 hown' hgrow hne; have HN5 := Lib.hid (RS.more hown'); have HGR := Lib.hid hgrow; have HNE := Lib.hid hne; clear hown' hgrow hne))
        have hv2 : v2 ≠ .slice none 0 0 := fun e => by have := (HNE.out.1 e).2; omega
        obtain ⟨gb2, cap2, rfl, hgb2, _⟩ := HN5.out.slice hv2
        have HC5 := Lib.hid ((HC4.out.alloc (.cells #[.int .i64 v.id, .int .i64 v.x, .int .i64 v.y, .int .i64 v.dep, .int .i64 v.dbt] 75)).past hgl HGR.out HV.out)
        have HG5 := Lib.hid (grown_past (grown_trans HG4.out (World.grownBy_alloc w4 (.cells #[.int .i64 v.id, .int .i64 v.x, .int .i64 v.y, .int .i64 v.dep, .int .i64 v.dbt] 75) (some g))) HGR.out HV.out)
        have HNM := Lib.hid (ids_more hN.out HVI.out)
        have hll : (L ++ [v]).length = L.length + 1 := by simp
        clear HC4 HG4 HR4 HNA HX5 HGR HNE HV hv2
        have HP : Hid (SoundsAny B A n c g k w (.returned (.slice (some ⟨gb2, 0, none⟩) (L ++ [v]).length cap2)) w5) := Lib.hid ⟨L ++ [v], gb2, cap2, _, by omega, HNM.out, by omega, by omega, hgb2, HN5.out.cap, rfl, HN5.out, HC5.out, HG5.out⟩
        go_wp2_with fail
        go_ret
        exact HP.out
      have hq0 : ((q : Int) == 0) = false := beq_eq_false_iff_ne.2 (by omega)
      by_cases h1 : q = 1
      · subst h1
        go_wp2_with fail
        go_loopw [3] (fun s wr => ∃ (L : List SD) (gb cap k' : Nat), L.length ≤ 13 ∧ k ≤ k' ∧ k' ≤ k + 92 + L.length ∧ w.heap.size ≤ gb ∧ s = .slice (some ⟨gb, 0, none⟩) L.length cap ∧ Hid (Ids L) ∧ Hid (RS w.heap.size L (.slice (some ⟨gb, 0, none⟩) L.length cap) wr) ∧ Hid (Cur B A n c g k' wr) ∧ Hid (w.grownBy wr (some g))) (fun s _ => 13 - (lenOfV s))
        case atStart => exact ⟨L, gb, cap, _, by omega, by omega, by omega, hgb, rfl, hN, HR2, HC2, HG2⟩
        case round =>
          obtain ⟨L, gb, cap, k', hl, hk1, hk2, hgb, rfl, hN, hR, hC, hG⟩ := hrel
          go_wp2_with fail
          refine (pick_any _ _ _ _ _ _ 2 _ hC.out (by omega) (by decide) (by decide)).mono ?_
          rintro e w3 ⟨u, hu, rfl, hc, hg⟩
          have HC3 := Lib.hid hc
          have HG3 := Lib.hid (grown_trans hG.out hg)
          have HR3 := Lib.hid (hR.out.draw hg hgl)
          clear hc hg hC hG hR
          by_cases hlu : (L.length : Int) < 12 + u
          · obtain ⟨i1, hi1⟩ : ∃ i1 : Int, i1 = 100 + (L.length : Int) := ⟨_, rfl⟩
            have HVI : Hid (0 ≤ (⟨100 + (L.length : Int), 0, 0, 800, 0⟩ : SD).id ∧ (⟨100 + (L.length : Int), 0, 0, 800, 0⟩ : SD).id ≤ 1000) := Lib.hid (by show 0 ≤ 100 + (L.length : Int) ∧ 100 + (L.length : Int) ≤ 1000; omega)
            clear hi1
            have HNA := Lib.hid (HR3.out.alloc (.cells #[.int .i64 (100 + (L.length : Int)), .int .i64 0, .int .i64 0, .int .i64 800, .int .i64 0] 75))
            have HX5 := Lib.hid (cells_one5 w3 ⟨100 + (L.length : Int), 0, 0, 800, 0⟩)
            have HS4 : Hid (w.heap.size ≤ (w3.alloc (.cells #[.int .i64 (100 + (L.length : Int)), .int .i64 0, .int .i64 0, .int .i64 800, .int .i64 0] 75)).heap.size) := Lib.hid (by have := HG3.out.size; simp; omega)
            have HV : Hid (∀ b, (Value.slice (some ⟨gb, 0, none⟩) L.length cap).ownBlock = some b → w.heap.size ≤ b) := Lib.hid fun b e => by have : gb = b := Option.some.inj e; omega
            go_wp2_with (at_builtin; go_loud (refine wpList_append_own _ rfl _ _ 67 rfl w.heap.size 75 i0 (.agg #[.int .i64 0, .int .i64 0, .int .i64 0, .int .i64 0, .int .i64 0]) 5 40 Try.underlying67 HI.out.1 HI.out.2.1 HI.out.2.2.1 HI.out.2.2.2 rfl (by decide) _ _ _ rfl HNA.out ⟨w3.heap.size, 0, none⟩ 1 1 [.int .i64 (100 + (L.length : Int)), .int .i64 0, .int .i64 0, .int .i64 800, .int .i64 0] rfl rfl HX5.out (cellsS_one [⟨100 + (L.length : Int), 0, 0, 800, 0⟩]) (by unfold maxLen; omega) (by omega) HS4.out ?_; intro v2 w5 hown' hgrow hne; have HN5 := Lib.hid (RS.more (M := [⟨100 + (L.length : Int), 0, 0, 800, 0⟩]) hown'); have HGR := Lib.hid hgrow; have HNE := Lib.hid hne; clear hown' hgrow hne))
            have hv2 : v2 ≠ .slice none 0 0 := fun e => by have := (HNE.out.1 e).2; omega
            obtain ⟨gb2, cap2, rfl, hgb2, _⟩ := HN5.out.slice hv2
            have HC5 := Lib.hid ((HC3.out.alloc (.cells #[.int .i64 (100 + (L.length : Int)), .int .i64 0, .int .i64 0, .int .i64 800, .int .i64 0] 75)).past hgl HGR.out HV.out)
            have HG5 := Lib.hid (grown_past (grown_trans HG3.out (World.grownBy_alloc w3 (.cells #[.int .i64 (100 + (L.length : Int)), .int .i64 0, .int .i64 0, .int .i64 800, .int .i64 0] 75) (some g))) HGR.out HV.out)
            have HNM := Lib.hid (ids_more (v := ⟨100 + (L.length : Int), 0, 0, 800, 0⟩) hN.out HVI.out)
            have hll : (L ++ [(⟨100 + (L.length : Int), 0, 0, 800, 0⟩ : SD)]).length = L.length + 1 := by simp
            clear HC3 HG3 HR3 HNA HX5 HGR HNE HV hv2
            go_roundw
            case rel => exact ⟨L ++ [⟨100 + (L.length : Int), 0, 0, 800, 0⟩], gb2, cap2, _, by omega, by omega, by omega, hgb2, by first | rfl | rw [hll], HNM, HN5, HC5, HG5⟩
            case measure => simp [lenOfV]; omega
          · go_wp2_with fail
            go_ret
            exact ⟨L, gb, cap, _, by omega, hN.out, by omega, by omega, hgb, HR3.out.cap, rfl, HR3.out, HC3.out, HG3.out⟩
      · have hq1 : ((q : Int) == 1) = false := beq_eq_false_iff_ne.2 (by omega)
        go_wp2_with fail
        go_ret
        exact ⟨L, gb, cap, _, by omega, hN.out, by omega, by omega, hgb, HR2.out.cap, rfl, HR2.out, HC2.out, HG2.out⟩
end Go.Proofs.Ytdmnkmdlochogaa
