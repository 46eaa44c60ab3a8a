/-
  Survey lines that are drawn: contract of spec.l1Cur.lines over this translation. Conditions: stated at each theorem.
-/
import Derived.Test.YtdmnkmdlochogabRa
import Derived.Test.YtdmnkmdlochogabRq
import Derived.Test.YtdmnkmdlochogabLr
import Derived.Deep.DeepCutAuto
import Derived.Laws.IdiomStrings
namespace Go.Proofs.Ytdmnkmdlochogab
open Go.RowKit Go.Sort

theorem cellsSN_one (L : List LN) : ∀ u ∈ cellsSN L, u.oneCell' = true := by
  intro u hu
  simp only [cellsSN, List.mem_flatMap, List.mem_cons, List.not_mem_nil, or_false] at hu
  obtain ⟨p, _, rfl | rfl | rfl | rfl | rfl⟩ := hu <;> rfl
/-- A row of the call's own that holds the lines L. -/
def RN (base : Nat) (L : List LN) (v : Value) (W : World) : Prop := W.ownsRow base 34 5 v L.length (cellsSN L)
theorem RN.new (W : World) : RN W.heap.size [] (.slice (some ⟨W.heap.size, 0, none⟩) 0 0) (W.alloc (.cells #[] 34)) :=
  World.ownsRow_made (base := W.heap.size) (e := 34) (size := 5) W #[] 0 (Nat.le_refl _) (by unfold maxLen; omega) (by simp)
theorem RN.low {base base' : Nat} {L : List LN} {v : Value} {W : World} (h : RN base L v W) (hb : base' ≤ base) : RN base' L v W := own_base h hb
theorem RN.draw {base : Nat} {L : List LN} {v : Value} {W W' : World} {g : Nat} (h : RN base L v W) (hg : W.grownBy W' (some g)) (hb : g < base) : RN base L v W' := own_any h hg (fun i e => by have := Option.some.inj e; omega)
theorem RN.alloc {base : Nat} {L : List LN} {v : Value} {W : World} (h : RN base L v W) (o : Obj) : RN base L v (W.alloc o) := World.ownsRow.alloc h o
theorem RN.past {base : Nat} {L : List LN} {v : Value} {W0 W W' : World} {r : Option Nat} (h0 : RN base L v W0) (h : RN base L v W) (hg : W.grownBy W' r) (hr : ∀ b, r = some b → W0.heap.size ≤ b) : RN base L v W' := by
  refine World.ownsRow.kept h hg ?_
  by_cases e : v.ownBlock = none
  · exact .inl e
  · refine .inr fun e2 => ?_
    obtain ⟨b, hb⟩ := Option.ne_none_iff_exists'.1 e
    have h1 := (World.ownsRow.lt h0 b hb).2
    have h2 := hr b (e2.symm.trans hb)
    omega
theorem RN.below {base : Nat} {L : List LN} {v : Value} {W W' : World} (h : RN base L v W) (hb : Below W.heap.size W W') : RN base L v W' := own_below h hb
theorem RN.slice {base : Nat} {L : List LN} {v : Value} {W : World} (h : RN base L v W) (hn : v ≠ .slice none 0 0) : ∃ gb cap, v = .slice (some ⟨gb, 0, none⟩) L.length cap ∧ base ≤ gb ∧ gb < W.heap.size := by
  rcases h.2 with ⟨e, _⟩ | ⟨gb, cap, cur, hv, hb, hc, _⟩
  · exact absurd e hn
  · exact ⟨gb, cap, hv, hb, (Array.getElem?_eq_some_iff.1 hc).1⟩
theorem RN.cells {base : Nat} {L : List LN} {gb cap m : Nat} {W : World} (h : RN base L (.slice (some ⟨gb, 0, none⟩) m cap) W) : ∀ j u, (cellsSN L)[j]? = some u → W.cell? ((⟨gb, 0, none⟩ : Addr).add j) = some u := World.ownsRow.cells h rfl
theorem RN.more {base : Nat} {L M : List LN} {v : Value} {W : World} (h : W.ownsRow base 34 5 v (L.length + M.length) (cellsSN L ++ cellsSN M)) : RN base (L ++ M) v W := by
  unfold RN
  have e : cellsSN (L ++ M) = cellsSN L ++ cellsSN M := by simp [cellsSN]
  rw [List.length_append, e]
  exact h
theorem cells_one5N (w : World) (v : LN) : ∀ j u, (cellsSN [v])[j]? = some u → (w.alloc (.cells #[.int .i64 v.id, .int .i64 v.y, .int .i64 v.fr, .int .i64 v.to, .int .i64 v.sw] 34)).cell? ((⟨w.heap.size, 0, none⟩ : Addr).add j) = some u := by
  intro j u hu
  have h := Has.new w #[.int .i64 v.id, .int .i64 v.y, .int .i64 v.fr, .int .i64 v.to, .int .i64 v.sw] 34
  have he : cellsSN [v] = [.int .i64 v.id, .int .i64 v.y, .int .i64 v.fr, .int .i64 v.to, .int .i64 v.sw] := rfl
  have hadd : (⟨w.heap.size, 0, none⟩ : Addr).add j = ⟨w.heap.size, j, none⟩ := by unfold Addr.add; split <;> simp_all
  rw [hadd]
  exact h.2.1 j u (by rw [he] at hu; simpa using hu)
theorem RN.sds {base : Nat} {L : List LN} {gb cap : Nat} {W : World} (h : RN base L (.slice (some ⟨gb, 0, none⟩) L.length cap) W) : SdsN W W.heap.size (some ⟨gb, 0, none⟩) L.length L :=
  sds_of_fillN (fillS_rowN h rfl) rfl
def lenOfN : Value → Nat
  | .slice _ n _ => n
  | _ => 0
/-- What lines hands back. -/
def LinesAny (B : Nat) (A : Option Addr) (n c g k : Nat) (w : World) (e : Ending) (w' : World) : Prop :=
  ∃ (L : List LN) (gb cap k' : Nat), L.length ≤ 9 ∧ k ≤ k' ∧ k' ≤ k + 80 ∧ w.heap.size ≤ gb ∧ L.length ≤ cap ∧ e = .returned (.slice (some ⟨gb, 0, none⟩) L.length cap) ∧ RN w.heap.size L (.slice (some ⟨gb, 0, none⟩) L.length cap) w' ∧ Cur B A n c g k' w' ∧ w.grownBy w' (some g)
theorem RN.cap {base : Nat} {L : List LN} {gb m cap : Nat} {W : World} (h : RN base L (.slice (some ⟨gb, 0, none⟩) m cap) W) : L.length ≤ cap := by
  rcases h.2 with ⟨e, _⟩ | ⟨g, cap', cur, hv, hb, hc, r⟩
  · cases e
  · injection hv with h1 h2 h3
    subst h3
    exact r.1
set_option maxRecDepth 100000 in
set_option maxHeartbeats 6400000 in
theorem lines_any (B : Nat) (A : Option Addr) (n c g k : Nat) (w : World) (h : Cur B A n c g k w) (hk : k < 700000) :
    Calls Try.prog 98 #[.pointer (some ⟨g, 0, none⟩)] w (LinesAny B A n c g k w) := by
  obtain ⟨i0, hi, hz0, hz1, hz2⟩ := info_parts infoSoundN
  have HI := Lib.hid (And.intro hi (And.intro hz0 (And.intro hz1 hz2)))
  clear hi hz0 hz1 hz2
  have hgl := h.lt
  have HC0 := Lib.hid (h.alloc (.cells #[] 34))
  have HG0 : Hid (w.grownBy (w.alloc (.cells #[] 34)) (some g)) := Lib.hid (World.grownBy_alloc _ _ _)
  have HR0 := Lib.hid (RN.new w)
  clear h
  go_enter Try.func98, Try.ntmps98
  go_wp2_with fail
  go_loopw [3, 4] (fun s i wr => ∃ (L : List LN) (gb cap k' r : Nat), 1 ≤ r ∧ r ≤ 7 ∧ L.length + 1 ≤ r ∧ k ≤ k' ∧ k' ≤ k + 6 * r ∧ w.heap.size ≤ gb ∧ s = .slice (some ⟨gb, 0, none⟩) L.length cap ∧ i = .int .i64 r ∧ Hid (RN w.heap.size L (.slice (some ⟨gb, 0, none⟩) L.length cap) wr) ∧ Hid (Cur B A n c g k' wr) ∧ Hid (w.grownBy wr (some g))) (fun _ i _ => 7 - (intOf i).toNat)
  case atStart => exact ⟨[], w.heap.size, 0, k, 1, by omega, by omega, by simp, by omega, by omega, Nat.le_refl _, rfl, rfl, HR0, HC0, HG0⟩
  case round =>
    obtain ⟨L, gb, cap, k', r, hr1, hr9, hlr, hk1, hk2, hgb, rfl, rfl, hR, hC, hG⟩ := hrel
    by_cases hlt : r < 7
    · go_wp2_with fail
      refine (one_any _ _ _ _ _ _ 3 _ hC.out (by omega) (by decide) (by decide)).mono ?_
      rintro e w2 ⟨b, rfl, hc, hg⟩
      have HC2 := Lib.hid hc
      have HG2 := Lib.hid (grown_trans hG.out hg)
      have HR2 := Lib.hid (hR.out.draw hg hgl)
      clear hc hg hC hG hR
      rcases b with _ | _
      case true =>
        go_wp2_with fail
        go_roundw
        case rel => exact ⟨L, gb, cap, _, r + 1, by omega, by omega, by omega, by omega, by omega, hgb, rfl, by go_num, HR2, HC2, HG2⟩
        case measure => simp [intOf]; omega
      case false =>
        go_wp2_with fail
        refine (among_at (fun x => 0 ≤ x ∧ x ≤ 1000) _ _ _ _ _ _ _ 5 [0, 0, 50, 100, 333] _ HC2.out rfl (by omega) (by simp) (by simp) (by intro x hx; simp only [List.mem_cons, List.not_mem_nil, or_false] at hx; omega)).mono ?_
        rintro e m3 ⟨fr, ⟨hlfr, hufr⟩, rfl, hc, hg⟩
        have HC3 := Lib.hid hc
        have HG3 := Lib.hid (grown_trans HG2.out hg)
        have HR3 := Lib.hid (HR2.out.draw hg hgl)
        clear hc hg HC2 HG2 HR2
        go_wp2_with fail
        refine (among_at AnyI _ _ _ _ _ _ _ 7 [0, 50, 100, 175, 300, 1000, 60 * (r : Int)] _ HC3.out rfl (by omega) (by simp) (by simp) (fun _ _ => trivial)).mono ?_
        rintro e m4 ⟨y, _, rfl, hc, hg⟩
        have HC4 := Lib.hid hc
        have HG4 := Lib.hid (grown_trans HG3.out hg)
        have HR4 := Lib.hid (HR3.out.draw hg hgl)
        clear hc hg HC3 HG3 HR3
        go_wp2_with fail
        refine (among_at (fun x => 0 ≤ x ∧ x ≤ 1000) _ _ _ _ _ _ _ 5 [1, 50, 200, 500, 667] _ HC4.out rfl (by omega) (by simp) (by simp) (by intro x hx; simp only [List.mem_cons, List.not_mem_nil, or_false] at hx; omega)).mono ?_
        rintro e m5 ⟨d, ⟨hld, hud⟩, rfl, hc, hg⟩
        have HC5 := Lib.hid hc
        have HG5 := Lib.hid (grown_trans HG4.out hg)
        have HR5 := Lib.hid (HR4.out.draw hg hgl)
        clear hc hg HC4 HG4 HR4
        go_wp2_with fail
        refine (among_at AnyI _ _ _ _ _ _ _ 6 [1, 25, 40, 60, 100, 300] _ HC5.out rfl (by omega) (by simp) (by simp) (fun _ _ => trivial)).mono ?_
        rintro e m6 ⟨sw, _, rfl, hc, hg⟩
        have HC6 := Lib.hid hc
        have HG6 := Lib.hid (grown_trans HG5.out hg)
        have HR6 := Lib.hid (HR5.out.draw hg hgl)
        clear hc hg HC5 HG5 HR5
        have HNA := Lib.hid (HR6.out.alloc (.cells #[.int .i64 (5 * (r : Int)), .int .i64 y, .int .i64 fr, .int .i64 (fr + d), .int .i64 sw] 34))
        have HX5 := Lib.hid (cells_one5N m6 (⟨(5 * (r : Int)), y, fr, (fr + d), sw⟩ : LN))
        have HS4 : Hid (w.heap.size ≤ (m6.alloc (.cells #[.int .i64 (5 * (r : Int)), .int .i64 y, .int .i64 fr, .int .i64 (fr + d), .int .i64 sw] 34)).heap.size) := Lib.hid (by have := HG6.out.size; simp; omega)
        have HV : Hid (∀ b, (Value.slice (some ⟨gb, 0, none⟩) L.length cap).ownBlock = some b → w.heap.size ≤ b) := Lib.hid fun b e => by have : gb = b := Option.some.inj e; omega
        go_wp2_with (at_builtin; go_loud (refine wpList_append_own _ rfl _ _ 28 rfl w.heap.size 34 i0 (.agg #[.int .i64 0, .int .i64 0, .int .i64 0, .int .i64 0, .int .i64 0]) 5 40 Try.underlying28 HI.out.1 HI.out.2.1 HI.out.2.2.1 HI.out.2.2.2 rfl (by decide) _ _ _ rfl HNA.out ⟨m6.heap.size, 0, none⟩ 1 1 [.int .i64 (5 * (r : Int)), .int .i64 y, .int .i64 fr, .int .i64 (fr + d), .int .i64 sw] rfl rfl HX5.out (cellsSN_one [(⟨(5 * (r : Int)), y, fr, (fr + d), sw⟩ : LN)]) (by unfold maxLen; omega) (by omega) HS4.out ?_; intro v2 w5 hown' hgrow hne; have HN5 := Lib.hid (RN.more (M := [(⟨(5 * (r : Int)), y, fr, (fr + d), sw⟩ : LN)]) hown'); have HGR := Lib.hid hgrow; have HNE := Lib.hid hne; clear hown' hgrow hne))
        have hv2 : v2 ≠ .slice none 0 0 := fun e => by have := (HNE.out.1 e).2; omega
        obtain ⟨gb2, cap2, rfl, hgb2, _⟩ := HN5.out.slice hv2
        have HC5 := Lib.hid ((HC6.out.alloc (.cells #[.int .i64 (5 * (r : Int)), .int .i64 y, .int .i64 fr, .int .i64 (fr + d), .int .i64 sw] 34)).past hgl HGR.out HV.out)
        have HG5 := Lib.hid (grown_past (grown_trans HG6.out (World.grownBy_alloc m6 (.cells #[.int .i64 (5 * (r : Int)), .int .i64 y, .int .i64 fr, .int .i64 (fr + d), .int .i64 sw] 34) (some g))) HGR.out HV.out)
        have hll : (L ++ [(⟨(5 * (r : Int)), y, fr, (fr + d), sw⟩ : LN)]).length = L.length + 1 := by simp
        clear HC6 HG6 HR6 HNA HX5 HGR HNE HV hv2
        go_roundw
        case rel => exact ⟨L ++ [⟨5 * (r : Int), y, fr, fr + d, sw⟩], gb2, cap2, _, r + 1, by omega, by omega, by omega, by omega, by omega, hgb2, by first | rfl | rw [hll], by go_num, HN5, HC5, HG5⟩
        case measure => simp [intOf]; omega
    · obtain rfl : r = 7 := by omega
      go_wp2_with fail
      refine (pick_any _ _ _ _ _ _ 32 _ hC.out (by omega) (by decide) (by decide)).mono ?_
      rintro e w2 ⟨q, hq, rfl, hc, hg⟩
      have HC2 := Lib.hid hc
      have HG2 := Lib.hid (grown_trans hG.out hg)
      have HR2 := Lib.hid (hR.out.draw hg hgl)
      clear hc hg hC hG hR
      by_cases h0 : q = 0
      · subst h0
        go_wp2_with fail
        refine (among_at AnyI _ _ _ _ _ _ _ 4 [0, 5, 99, 100] _ HC2.out rfl (by omega) (by simp) (by simp) (fun _ _ => trivial)).mono ?_
        rintro e m3 ⟨id, _, rfl, hc, hg⟩
        have HC3 := Lib.hid hc
        have HG3 := Lib.hid (grown_trans HG2.out hg)
        have HR3 := Lib.hid (HR2.out.draw hg hgl)
        clear hc hg HC2 HG2 HR2
        go_wp2_with fail
        refine (among_at AnyI _ _ _ _ _ _ _ 2 [0, 1001] _ HC3.out rfl (by omega) (by simp) (by simp) (fun _ _ => trivial)).mono ?_
        rintro e m4 ⟨y, _, rfl, hc, hg⟩
        have HC4 := Lib.hid hc
        have HG4 := Lib.hid (grown_trans HG3.out hg)
        have HR4 := Lib.hid (HR3.out.draw hg hgl)
        clear hc hg HC3 HG3 HR3
        go_wp2_with fail
        refine (among_at AnyI _ _ _ _ _ _ _ 3 [0, 1000, 1001] _ HC4.out rfl (by omega) (by simp) (by simp) (fun _ _ => trivial)).mono ?_
        rintro e m5 ⟨tt, _, rfl, hc, hg⟩
        have HC5 := Lib.hid hc
        have HG5 := Lib.hid (grown_trans HG4.out hg)
        have HR5 := Lib.hid (HR4.out.draw hg hgl)
        clear hc hg HC4 HG4 HR4
        go_wp2_with fail
        refine (among_at AnyI _ _ _ _ _ _ _ 3 [0, 1, 301] _ HC5.out rfl (by omega) (by simp) (by simp) (fun _ _ => trivial)).mono ?_
        rintro e m6 ⟨sw, _, rfl, hc, hg⟩
        have HC6 := Lib.hid hc
        have HG6 := Lib.hid (grown_trans HG5.out hg)
        have HR6 := Lib.hid (HR5.out.draw hg hgl)
        clear hc hg HC5 HG5 HR5
        have HNA := Lib.hid (HR6.out.alloc (.cells #[.int .i64 id, .int .i64 y, .int .i64 0, .int .i64 tt, .int .i64 sw] 34))
        have HX5 := Lib.hid (cells_one5N m6 (⟨id, y, 0, tt, sw⟩ : LN))
        have HS4 : Hid (w.heap.size ≤ (m6.alloc (.cells #[.int .i64 id, .int .i64 y, .int .i64 0, .int .i64 tt, .int .i64 sw] 34)).heap.size) := Lib.hid (by have := HG6.out.size; simp; omega)
        have HV : Hid (∀ b, (Value.slice (some ⟨gb, 0, none⟩) L.length cap).ownBlock = some b → w.heap.size ≤ b) := Lib.hid fun b e => by have : gb = b := Option.some.inj e; omega
        go_wp2_with (at_builtin; go_loud (refine wpList_append_own _ rfl _ _ 28 rfl w.heap.size 34 i0 (.agg #[.int .i64 0, .int .i64 0, .int .i64 0, .int .i64 0, .int .i64 0]) 5 40 Try.underlying28 HI.out.1 HI.out.2.1 HI.out.2.2.1 HI.out.2.2.2 rfl (by decide) _ _ _ rfl HNA.out ⟨m6.heap.size, 0, none⟩ 1 1 [.int .i64 id, .int .i64 y, .int .i64 0, .int .i64 tt, .int .i64 sw] rfl rfl HX5.out (cellsSN_one [(⟨id, y, 0, tt, sw⟩ : LN)]) (by unfold maxLen; omega) (by omega) HS4.out ?_; intro v2 w5 hown' hgrow hne; have HN5 := Lib.hid (RN.more (M := [(⟨id, y, 0, tt, sw⟩ : LN)]) hown'); have HGR := Lib.hid hgrow; have HNE := Lib.hid hne; clear hown' hgrow hne))
        have hv2 : v2 ≠ .slice none 0 0 := fun e => by have := (HNE.out.1 e).2; omega
        obtain ⟨gb2, cap2, rfl, hgb2, _⟩ := HN5.out.slice hv2
        have HC5 := Lib.hid ((HC6.out.alloc (.cells #[.int .i64 id, .int .i64 y, .int .i64 0, .int .i64 tt, .int .i64 sw] 34)).past hgl HGR.out HV.out)
        have HG5 := Lib.hid (grown_past (grown_trans HG6.out (World.grownBy_alloc m6 (.cells #[.int .i64 id, .int .i64 y, .int .i64 0, .int .i64 tt, .int .i64 sw] 34) (some g))) HGR.out HV.out)
        have hll : (L ++ [(⟨id, y, 0, tt, sw⟩ : LN)]).length = L.length + 1 := by simp
        clear HC6 HG6 HR6 HNA HX5 HGR HNE HV hv2
        have HP : Hid (LinesAny B A n c g k w (.returned (.slice (some ⟨gb2, 0, none⟩) (L ++ [(⟨id, y, 0, tt, sw⟩ : LN)]).length cap2)) w5) := Lib.hid ⟨L ++ [⟨id, y, 0, tt, sw⟩], gb2, cap2, _, by omega, by omega, by omega, hgb2, HN5.out.cap, rfl, HN5.out, HC5.out, HG5.out⟩
        go_wp2_with fail
        go_ret
        exact HP.out
      have hq0 : ((q : Int) == 0) = false := beq_eq_false_iff_ne.2 (by omega)
      by_cases h1 : q = 1
      · subst h1
        go_wp2_with fail
        go_loopw [3] (fun s wr => ∃ (L : List LN) (gb cap k' : Nat), L.length ≤ 9 ∧ k ≤ k' ∧ k' ≤ k + 60 + L.length ∧ w.heap.size ≤ gb ∧ s = .slice (some ⟨gb, 0, none⟩) L.length cap ∧ Hid (RN w.heap.size L (.slice (some ⟨gb, 0, none⟩) L.length cap) wr) ∧ Hid (Cur B A n c g k' wr) ∧ Hid (w.grownBy wr (some g))) (fun s _ => 9 - (lenOfN s))
        case atStart => exact ⟨L, gb, cap, _, by omega, by omega, by omega, hgb, rfl, HR2, HC2, HG2⟩
        case round =>
          obtain ⟨L, gb, cap, k', hl, hk1, hk2, hgb, rfl, hR, hC, hG⟩ := hrel
          go_wp2_with fail
          refine (pick_any _ _ _ _ _ _ 2 _ hC.out (by omega) (by decide) (by decide)).mono ?_
          rintro e w3 ⟨u, hu, rfl, hc, hg⟩
          have HC3 := Lib.hid hc
          have HG3 := Lib.hid (grown_trans hG.out hg)
          have HR3 := Lib.hid (hR.out.draw hg hgl)
          clear hc hg hC hG hR
          by_cases hlu : (L.length : Int) < 8 + u
          · skip
            have HNA := Lib.hid (HR3.out.alloc (.cells #[.int .i64 (50 + (L.length : Int)), .int .i64 100, .int .i64 0, .int .i64 500, .int .i64 50] 34))
            have HX5 := Lib.hid (cells_one5N w3 (⟨(50 + (L.length : Int)), 100, 0, 500, 50⟩ : LN))
            have HS4 : Hid (w.heap.size ≤ (w3.alloc (.cells #[.int .i64 (50 + (L.length : Int)), .int .i64 100, .int .i64 0, .int .i64 500, .int .i64 50] 34)).heap.size) := Lib.hid (by have := HG3.out.size; simp; omega)
            have HV : Hid (∀ b, (Value.slice (some ⟨gb, 0, none⟩) L.length cap).ownBlock = some b → w.heap.size ≤ b) := Lib.hid fun b e => by have : gb = b := Option.some.inj e; omega
            go_wp2_with (at_builtin; go_loud (refine wpList_append_own _ rfl _ _ 28 rfl w.heap.size 34 i0 (.agg #[.int .i64 0, .int .i64 0, .int .i64 0, .int .i64 0, .int .i64 0]) 5 40 Try.underlying28 HI.out.1 HI.out.2.1 HI.out.2.2.1 HI.out.2.2.2 rfl (by decide) _ _ _ rfl HNA.out ⟨w3.heap.size, 0, none⟩ 1 1 [.int .i64 (50 + (L.length : Int)), .int .i64 100, .int .i64 0, .int .i64 500, .int .i64 50] rfl rfl HX5.out (cellsSN_one [(⟨(50 + (L.length : Int)), 100, 0, 500, 50⟩ : LN)]) (by unfold maxLen; omega) (by omega) HS4.out ?_; intro v2 w5 hown' hgrow hne; have HN5 := Lib.hid (RN.more (M := [(⟨(50 + (L.length : Int)), 100, 0, 500, 50⟩ : LN)]) hown'); have HGR := Lib.hid hgrow; have HNE := Lib.hid hne; clear hown' hgrow hne))
            have hv2 : v2 ≠ .slice none 0 0 := fun e => by have := (HNE.out.1 e).2; omega
            obtain ⟨gb2, cap2, rfl, hgb2, _⟩ := HN5.out.slice hv2
            have HC5 := Lib.hid ((HC3.out.alloc (.cells #[.int .i64 (50 + (L.length : Int)), .int .i64 100, .int .i64 0, .int .i64 500, .int .i64 50] 34)).past hgl HGR.out HV.out)
            have HG5 := Lib.hid (grown_past (grown_trans HG3.out (World.grownBy_alloc w3 (.cells #[.int .i64 (50 + (L.length : Int)), .int .i64 100, .int .i64 0, .int .i64 500, .int .i64 50] 34) (some g))) HGR.out HV.out)
            have hll : (L ++ [(⟨(50 + (L.length : Int)), 100, 0, 500, 50⟩ : LN)]).length = L.length + 1 := by simp
            clear HC3 HG3 HR3 HNA HX5 HGR HNE HV hv2
            go_roundw
            case rel => exact ⟨L ++ [⟨50 + (L.length : Int), 100, 0, 500, 50⟩], gb2, cap2, _, by omega, by omega, by omega, hgb2, by first | rfl | rw [hll], HN5, HC5, HG5⟩
            case measure => simp [lenOfN]; omega
          · go_wp2_with fail
            go_ret
            exact ⟨L, gb, cap, _, by omega, by omega, by omega, hgb, HR3.out.cap, rfl, HR3.out, HC3.out, HG3.out⟩
      · have hq1 : ((q : Int) == 1) = false := beq_eq_false_iff_ne.2 (by omega)
        go_wp2_with fail
        go_ret
        exact ⟨L, gb, cap, _, by omega, by omega, by omega, hgb, HR2.out.cap, rfl, HR2.out, HC2.out, HG2.out⟩
end Go.Proofs.Ytdmnkmdlochogab
