/-
  Crossings that are drawn: contract of spec.l1Cur.crossings over this translation. Conditions: stated at each theorem.
-/
import Derived.Test.YtlakdlghkniegaaRa
import Derived.Test.YtlakdlghkniegaaXr
import Derived.Deep.DeepCutAuto
import Derived.Laws.IdiomStrings
namespace Go.Proofs.Ytlakdlghkniegaa
open Go.RowKit Go.Sort

theorem cellsSX_one (L : List XD) : ∀ u ∈ cellsSX L, u.oneCell' = true := by
  intro u hu
  simp only [cellsSX, List.mem_flatMap, List.mem_cons, List.not_mem_nil, or_false] at hu
  obtain ⟨p, _, rfl | rfl | rfl | rfl | rfl⟩ := hu <;> rfl
/-- A row of the call's own that holds the crossings L. -/
def RX (base : Nat) (L : List XD) (v : Value) (W : World) : Prop := W.ownsRow base 45 4 v L.length (cellsSX L)
theorem RX.new (W : World) : RX W.heap.size [] (.slice (some ⟨W.heap.size, 0, none⟩) 0 0) (W.alloc (.cells #[] 45)) :=
  World.ownsRow_made (base := W.heap.size) (e := 45) (size := 4) W #[] 0 (Nat.le_refl _) (by unfold maxLen; omega) (by simp)
theorem RX.low {base base' : Nat} {L : List XD} {v : Value} {W : World} (h : RX base L v W) (hb : base' ≤ base) : RX base' L v W := own_base h hb
theorem RX.draw {base : Nat} {L : List XD} {v : Value} {W W' : World} {g : Nat} (h : RX base L v W) (hg : W.grownBy W' (some g)) (hb : g < base) : RX base L v W' := own_any h hg (fun i e => by have := Option.some.inj e; omega)
theorem RX.alloc {base : Nat} {L : List XD} {v : Value} {W : World} (h : RX base L v W) (o : Obj) : RX base L v (W.alloc o) := World.ownsRow.alloc h o
theorem RX.past {base : Nat} {L : List XD} {v : Value} {W0 W W' : World} {r : Option Nat} (h0 : RX base L v W0) (h : RX base L v W) (hg : W.grownBy W' r) (hr : ∀ b, r = some b → W0.heap.size ≤ b) : RX base L v W' := by
  refine World.ownsRow.kept h hg ?_
  by_cases e : v.ownBlock = none
  · exact .inl e
  · refine .inr fun e2 => ?_
    obtain ⟨b, hb⟩ := Option.ne_none_iff_exists'.1 e
    have h1 := (World.ownsRow.lt h0 b hb).2
    have h2 := hr b (e2.symm.trans hb)
    omega
theorem RX.below {base : Nat} {L : List XD} {v : Value} {W W' : World} (h : RX base L v W) (hb : Below W.heap.size W W') : RX base L v W' := own_below h hb
theorem RX.slice {base : Nat} {L : List XD} {v : Value} {W : World} (h : RX base L v W) (hn : v ≠ .slice none 0 0) : ∃ gb cap, v = .slice (some ⟨gb, 0, none⟩) L.length cap ∧ base ≤ gb ∧ gb < W.heap.size := by
  rcases h.2 with ⟨e, _⟩ | ⟨gb, cap, cur, hv, hb, hc, _⟩
  · exact absurd e hn
  · exact ⟨gb, cap, hv, hb, (Array.getElem?_eq_some_iff.1 hc).1⟩
theorem RX.cells {base : Nat} {L : List XD} {gb cap m : Nat} {W : World} (h : RX base L (.slice (some ⟨gb, 0, none⟩) m cap) W) : ∀ j u, (cellsSX L)[j]? = some u → W.cell? ((⟨gb, 0, none⟩ : Addr).add j) = some u := World.ownsRow.cells h rfl
theorem RX.more {base : Nat} {L M : List XD} {v : Value} {W : World} (h : W.ownsRow base 45 4 v (L.length + M.length) (cellsSX L ++ cellsSX M)) : RX base (L ++ M) v W := by
  unfold RX
  have e : cellsSX (L ++ M) = cellsSX L ++ cellsSX M := by simp [cellsSX]
  rw [List.length_append, e]
  exact h
theorem cells_one4X (w : World) (v : XD) : ∀ j u, (cellsSX [v])[j]? = some u → (w.alloc (.cells #[.int .i64 v.ln, .int .i64 v.cr, .int .i64 v.mn, .int .i64 v.ck] 45)).cell? ((⟨w.heap.size, 0, none⟩ : Addr).add j) = some u := by
  intro j u hu
  have h := Has.new w #[.int .i64 v.ln, .int .i64 v.cr, .int .i64 v.mn, .int .i64 v.ck] 45
  have he : cellsSX [v] = [.int .i64 v.ln, .int .i64 v.cr, .int .i64 v.mn, .int .i64 v.ck] := rfl
  have hadd : (⟨w.heap.size, 0, none⟩ : Addr).add j = ⟨w.heap.size, j, none⟩ := by unfold Addr.add; split <;> simp_all
  rw [hadd]
  exact h.2.1 j u (by rw [he] at hu; simpa using hu)
theorem RX.sds {base : Nat} {L : List XD} {gb cap : Nat} {W : World} (h : RX base L (.slice (some ⟨gb, 0, none⟩) L.length cap) W) : SdsX W W.heap.size (some ⟨gb, 0, none⟩) L.length L :=
  sds_of_fillX (fillS_rowX h rfl) rfl
def lenOfX : Value → Nat
  | .slice _ n _ => n
  | _ => 0
/-- What crossings hands back. -/
def CrossAny (B : Nat) (A : Option Addr) (n c g k : Nat) (w : World) (e : Ending) (w' : World) : Prop :=
  ∃ (L : List XD) (gb cap k' : Nat), L.length ≤ 11 ∧ k ≤ k' ∧ k' ≤ k + 80 ∧ w.heap.size ≤ gb ∧ L.length ≤ cap ∧ e = .returned (.slice (some ⟨gb, 0, none⟩) L.length cap) ∧ RX w.heap.size L (.slice (some ⟨gb, 0, none⟩) L.length cap) w' ∧ Cur B A n c g k' w' ∧ w.grownBy w' (some g)
theorem RX.cap {base : Nat} {L : List XD} {gb m cap : Nat} {W : World} (h : RX base L (.slice (some ⟨gb, 0, none⟩) m cap) W) : L.length ≤ cap := by
  rcases h.2 with ⟨e, _⟩ | ⟨g, cap', cur, hv, hb, hc, r⟩
  · cases e
  · injection hv with h1 h2 h3
    subst h3
    exact r.1
set_option maxRecDepth 100000 in
set_option maxHeartbeats 6400000 in
theorem crossings_any (B : Nat) (A : Option Addr) (n c g k : Nat) (w : World) (h : Cur B A n c g k w) (hk : k < 700000) :
    Calls Try.prog 53 #[.pointer (some ⟨g, 0, none⟩)] w (CrossAny B A n c g k w) := by
  obtain ⟨i0, hi, hz0, hz1, hz2⟩ := info_parts infoSoundX
  have HI := Lib.hid (And.intro hi (And.intro hz0 (And.intro hz1 hz2)))
  clear hi hz0 hz1 hz2
  have hgl := h.lt
  have HC0 := Lib.hid (h.alloc (.cells #[] 45))
  have HG0 : Hid (w.grownBy (w.alloc (.cells #[] 45)) (some g)) := Lib.hid (World.grownBy_alloc _ _ _)
  have HR0 := Lib.hid (RX.new w)
  clear h
  go_enter Try.func53, Try.ntmps53
  go_wp2_with fail
  go_loopw [3, 4] (fun s i wr => ∃ (L : List XD) (gb cap k' r : Nat), r ≤ 8 ∧ L.length ≤ r ∧ k ≤ k' ∧ k' ≤ k + 6 * r ∧ w.heap.size ≤ gb ∧ s = .slice (some ⟨gb, 0, none⟩) L.length cap ∧ i = .int .i64 r ∧ Hid (RX w.heap.size L (.slice (some ⟨gb, 0, none⟩) L.length cap) wr) ∧ Hid (Cur B A n c g k' wr) ∧ Hid (w.grownBy wr (some g))) (fun _ i _ => 8 - (intOf i).toNat)
  case atStart => exact ⟨[], w.heap.size, 0, k, 0, by omega, by simp, by omega, by omega, Nat.le_refl _, rfl, rfl, HR0, HC0, HG0⟩
  case round =>
    obtain ⟨L, gb, cap, k', r, hr9, hlr, hk1, hk2, hgb, rfl, rfl, hR, hC, hG⟩ := hrel
    by_cases hlt : r < 8
    · go_wp2_with fail
      refine (one_any _ _ _ _ _ _ 3 _ hC.out (by omega) (by decide) (by decide)).mono ?_
      rintro e w2 ⟨b, rfl, hc, hg⟩
      have HC2 := Lib.hid hc
      have HG2 := Lib.hid (grown_trans hG.out hg)
      have HR2 := Lib.hid (hR.out.draw hg hgl)
      clear hc hg hC hG hR
      rcases b with _ | _
      case true =>
        go_wp2_with fail
        go_roundw
        case rel => exact ⟨L, gb, cap, _, r + 1, by omega, by omega, by omega, by omega, hgb, rfl, by go_num, HR2, HC2, HG2⟩
        case measure => simp [intOf]; omega
      case false =>
        go_wp2_with fail
        refine (among_at (fun x => -1001 ≤ x ∧ x ≤ 20001) _ _ _ _ _ _ _ 6 [0, 300, 800, 1000, 1500, -20] _ HC2.out rfl (by omega) (by simp) (by simp) (by intro x hx; simp only [List.mem_cons, List.not_mem_nil, or_false] at hx; omega)).mono ?_
        rintro e m3 ⟨m, ⟨hlm, hum⟩, rfl, hc, hg⟩
        have HC3 := Lib.hid hc
        have HG3 := Lib.hid (grown_trans HG2.out hg)
        have HR3 := Lib.hid (HR2.out.draw hg hgl)
        clear hc hg HC2 HG2 HR2
        go_wp2_with fail
        refine (among_at (fun x => -1001 ≤ x ∧ x ≤ 20001) _ _ _ _ _ _ _ 8 [0, 0, 3, -5, 10, 25, -40, 300] _ HC3.out rfl (by omega) (by simp) (by simp) (by intro x hx; simp only [List.mem_cons, List.not_mem_nil, or_false] at hx; omega)).mono ?_
        rintro e m4 ⟨d, ⟨hld, hud⟩, rfl, hc, hg⟩
        have HC4 := Lib.hid hc
        have HG4 := Lib.hid (grown_trans HG3.out hg)
        have HR4 := Lib.hid (HR3.out.draw hg hgl)
        clear hc hg HC3 HG3 HR3
        have HNA := Lib.hid (HR4.out.alloc (.cells #[.int .i64 (1 + (r : Int) % 3), .int .i64 (10 + (r : Int) / 3), .int .i64 m, .int .i64 (m + d)] 45))
        have HX5 := Lib.hid (cells_one4X m4 (⟨(1 + (r : Int) % 3), (10 + (r : Int) / 3), m, (m + d)⟩ : XD))
        have HS4 : Hid (w.heap.size ≤ (m4.alloc (.cells #[.int .i64 (1 + (r : Int) % 3), .int .i64 (10 + (r : Int) / 3), .int .i64 m, .int .i64 (m + d)] 45)).heap.size) := Lib.hid (by have := HG4.out.size; simp; omega)
        have HV : Hid (∀ b, (Value.slice (some ⟨gb, 0, none⟩) L.length cap).ownBlock = some b → w.heap.size ≤ b) := Lib.hid fun b e => by have : gb = b := Option.some.inj e; omega
        go_wp2_with (at_builtin; go_loud (refine wpList_append_own _ rfl _ _ 24 rfl w.heap.size 45 i0 (.agg #[.int .i64 0, .int .i64 0, .int .i64 0, .int .i64 0]) 4 32 Try.underlying24 HI.out.1 HI.out.2.1 HI.out.2.2.1 HI.out.2.2.2 rfl (by decide) _ _ _ rfl HNA.out ⟨m4.heap.size, 0, none⟩ 1 1 [.int .i64 (1 + (r : Int) % 3), .int .i64 (10 + (r : Int) / 3), .int .i64 m, .int .i64 (m + d)] rfl rfl HX5.out (cellsSX_one [(⟨(1 + (r : Int) % 3), (10 + (r : Int) / 3), m, (m + d)⟩ : XD)]) (by unfold maxLen; omega) (by omega) HS4.out ?_; intro v2 w5 hown' hgrow hne; have HN5 := Lib.hid (RX.more (M := [(⟨(1 + (r : Int) % 3), (10 + (r : Int) / 3), m, (m + d)⟩ : XD)]) hown'); have HGR := Lib.hid hgrow; have HNE := Lib.hid hne; clear hown' hgrow hne))
        have hv2 : v2 ≠ .slice none 0 0 := fun e => by have := (HNE.out.1 e).2; omega
        obtain ⟨gb2, cap2, rfl, hgb2, _⟩ := HN5.out.slice hv2
        have HC5 := Lib.hid ((HC4.out.alloc (.cells #[.int .i64 (1 + (r : Int) % 3), .int .i64 (10 + (r : Int) / 3), .int .i64 m, .int .i64 (m + d)] 45)).past hgl HGR.out HV.out)
        have HG5 := Lib.hid (grown_past (grown_trans HG4.out (World.grownBy_alloc m4 (.cells #[.int .i64 (1 + (r : Int) % 3), .int .i64 (10 + (r : Int) / 3), .int .i64 m, .int .i64 (m + d)] 45) (some g))) HGR.out HV.out)
        have hll : (L ++ [(⟨(1 + (r : Int) % 3), (10 + (r : Int) / 3), m, (m + d)⟩ : XD)]).length = L.length + 1 := by simp
        clear HC4 HG4 HR4 HNA HX5 HGR HNE HV hv2
        go_roundw
        case rel => exact ⟨L ++ [⟨1 + (r : Int) % 3, 10 + (r : Int) / 3, m, m + d⟩], gb2, cap2, _, r + 1, by omega, by omega, by omega, by omega, hgb2, by first | rfl | rw [hll], by go_num, HN5, HC5, HG5⟩
        case measure => simp [intOf]; omega
    · obtain rfl : r = 8 := by omega
      go_wp2_with fail
      refine (pick_any _ _ _ _ _ _ 32 _ hC.out (by omega) (by decide) (by decide)).mono ?_
      rintro e w2 ⟨q, hq, rfl, hc, hg⟩
      have HC2 := Lib.hid hc
      have HG2 := Lib.hid (grown_trans hG.out hg)
      have HR2 := Lib.hid (hR.out.draw hg hgl)
      clear hc hg hC hG hR
      by_cases h0 : q = 0
      · subst h0
        go_wp2_with fail
        refine (among_at AnyI _ _ _ _ _ _ _ 4 [0, 1, 99, 100] _ HC2.out rfl (by omega) (by simp) (by simp) (fun _ _ => trivial)).mono ?_
        rintro e m3 ⟨ln, _, rfl, hc, hg⟩
        have HC3 := Lib.hid hc
        have HG3 := Lib.hid (grown_trans HG2.out hg)
        have HR3 := Lib.hid (HR2.out.draw hg hgl)
        clear hc hg HC2 HG2 HR2
        go_wp2_with fail
        refine (among_at AnyI _ _ _ _ _ _ _ 3 [0, 10, 99] _ HC3.out rfl (by omega) (by simp) (by simp) (fun _ _ => trivial)).mono ?_
        rintro e m4 ⟨cr, _, rfl, hc, hg⟩
        have HC4 := Lib.hid hc
        have HG4 := Lib.hid (grown_trans HG3.out hg)
        have HR4 := Lib.hid (HR3.out.draw hg hgl)
        clear hc hg HC3 HG3 HR3
        go_wp2_with fail
        refine (among_at AnyI _ _ _ _ _ _ _ 4 [-1000, -1001, 20000, 20001] _ HC4.out rfl (by omega) (by simp) (by simp) (fun _ _ => trivial)).mono ?_
        rintro e m6 ⟨mn, _, rfl, hc, hg⟩
        have HC6 := Lib.hid hc
        have HG6 := Lib.hid (grown_trans HG4.out hg)
        have HR6 := Lib.hid (HR4.out.draw hg hgl)
        clear hc hg HC4 HG4 HR4
        have HNA := Lib.hid (HR6.out.alloc (.cells #[.int .i64 ln, .int .i64 cr, .int .i64 mn, .int .i64 5] 45))
        have HX5 := Lib.hid (cells_one4X m6 (⟨ln, cr, mn, 5⟩ : XD))
        have HS4 : Hid (w.heap.size ≤ (m6.alloc (.cells #[.int .i64 ln, .int .i64 cr, .int .i64 mn, .int .i64 5] 45)).heap.size) := Lib.hid (by have := HG6.out.size; simp; omega)
        have HV : Hid (∀ b, (Value.slice (some ⟨gb, 0, none⟩) L.length cap).ownBlock = some b → w.heap.size ≤ b) := Lib.hid fun b e => by have : gb = b := Option.some.inj e; omega
        go_wp2_with (at_builtin; go_loud (refine wpList_append_own _ rfl _ _ 24 rfl w.heap.size 45 i0 (.agg #[.int .i64 0, .int .i64 0, .int .i64 0, .int .i64 0]) 4 32 Try.underlying24 HI.out.1 HI.out.2.1 HI.out.2.2.1 HI.out.2.2.2 rfl (by decide) _ _ _ rfl HNA.out ⟨m6.heap.size, 0, none⟩ 1 1 [.int .i64 ln, .int .i64 cr, .int .i64 mn, .int .i64 5] rfl rfl HX5.out (cellsSX_one [(⟨ln, cr, mn, 5⟩ : XD)]) (by unfold maxLen; omega) (by omega) HS4.out ?_; intro v2 w5 hown' hgrow hne; have HN5 := Lib.hid (RX.more (M := [(⟨ln, cr, mn, 5⟩ : XD)]) hown'); have HGR := Lib.hid hgrow; have HNE := Lib.hid hne; clear hown' hgrow hne))
        have hv2 : v2 ≠ .slice none 0 0 := fun e => by have := (HNE.out.1 e).2; omega
        obtain ⟨gb2, cap2, rfl, hgb2, _⟩ := HN5.out.slice hv2
        have HC5 := Lib.hid ((HC6.out.alloc (.cells #[.int .i64 ln, .int .i64 cr, .int .i64 mn, .int .i64 5] 45)).past hgl HGR.out HV.out)
        have HG5 := Lib.hid (grown_past (grown_trans HG6.out (World.grownBy_alloc m6 (.cells #[.int .i64 ln, .int .i64 cr, .int .i64 mn, .int .i64 5] 45) (some g))) HGR.out HV.out)
        have hll : (L ++ [(⟨ln, cr, mn, 5⟩ : XD)]).length = L.length + 1 := by simp
        clear HC6 HG6 HR6 HNA HX5 HGR HNE HV hv2
        have HP : Hid (CrossAny B A n c g k w (.returned (.slice (some ⟨gb2, 0, none⟩) (L ++ [(⟨ln, cr, mn, 5⟩ : XD)]).length cap2)) w5) := Lib.hid ⟨L ++ [⟨ln, cr, mn, 5⟩], gb2, cap2, _, by omega, by omega, by omega, hgb2, HN5.out.cap, rfl, HN5.out, HC5.out, HG5.out⟩
        go_wp2_with fail
        go_ret
        exact HP.out
      have hq0 : ((q : Int) == 0) = false := beq_eq_false_iff_ne.2 (by omega)
      by_cases h1 : q = 1
      · subst h1
        go_wp2_with fail
        go_loopw [3] (fun s wr => ∃ (L : List XD) (gb cap k' : Nat), L.length ≤ 11 ∧ k ≤ k' ∧ k' ≤ k + 60 + L.length ∧ w.heap.size ≤ gb ∧ s = .slice (some ⟨gb, 0, none⟩) L.length cap ∧ Hid (RX w.heap.size L (.slice (some ⟨gb, 0, none⟩) L.length cap) wr) ∧ Hid (Cur B A n c g k' wr) ∧ Hid (w.grownBy wr (some g))) (fun s _ => 11 - (lenOfX s))
        case atStart => exact ⟨L, gb, cap, _, by omega, by omega, by omega, hgb, rfl, HR2, HC2, HG2⟩
        case round =>
          obtain ⟨L, gb, cap, k', hl, hk1, hk2, hgb, rfl, hR, hC, hG⟩ := hrel
          go_wp2_with fail
          refine (pick_any _ _ _ _ _ _ 2 _ hC.out (by omega) (by decide) (by decide)).mono ?_
          rintro e w3 ⟨u, hu, rfl, hc, hg⟩
          have HC3 := Lib.hid hc
          have HG3 := Lib.hid (grown_trans hG.out hg)
          have HR3 := Lib.hid (hR.out.draw hg hgl)
          clear hc hg hC hG hR
          by_cases hlu : (L.length : Int) < 10 + u
          · skip
            have HNA := Lib.hid (HR3.out.alloc (.cells #[.int .i64 (50 + (L.length : Int)), .int .i64 7, .int .i64 100, .int .i64 101] 45))
            have HX5 := Lib.hid (cells_one4X w3 (⟨(50 + (L.length : Int)), 7, 100, 101⟩ : XD))
            have HS4 : Hid (w.heap.size ≤ (w3.alloc (.cells #[.int .i64 (50 + (L.length : Int)), .int .i64 7, .int .i64 100, .int .i64 101] 45)).heap.size) := Lib.hid (by have := HG3.out.size; simp; omega)
            have HV : Hid (∀ b, (Value.slice (some ⟨gb, 0, none⟩) L.length cap).ownBlock = some b → w.heap.size ≤ b) := Lib.hid fun b e => by have : gb = b := Option.some.inj e; omega
            go_wp2_with (at_builtin; go_loud (refine wpList_append_own _ rfl _ _ 24 rfl w.heap.size 45 i0 (.agg #[.int .i64 0, .int .i64 0, .int .i64 0, .int .i64 0]) 4 32 Try.underlying24 HI.out.1 HI.out.2.1 HI.out.2.2.1 HI.out.2.2.2 rfl (by decide) _ _ _ rfl HNA.out ⟨w3.heap.size, 0, none⟩ 1 1 [.int .i64 (50 + (L.length : Int)), .int .i64 7, .int .i64 100, .int .i64 101] rfl rfl HX5.out (cellsSX_one [(⟨(50 + (L.length : Int)), 7, 100, 101⟩ : XD)]) (by unfold maxLen; omega) (by omega) HS4.out ?_; intro v2 w5 hown' hgrow hne; have HN5 := Lib.hid (RX.more (M := [(⟨(50 + (L.length : Int)), 7, 100, 101⟩ : XD)]) hown'); have HGR := Lib.hid hgrow; have HNE := Lib.hid hne; clear hown' hgrow hne))
            have hv2 : v2 ≠ .slice none 0 0 := fun e => by have := (HNE.out.1 e).2; omega
            obtain ⟨gb2, cap2, rfl, hgb2, _⟩ := HN5.out.slice hv2
            have HC5 := Lib.hid ((HC3.out.alloc (.cells #[.int .i64 (50 + (L.length : Int)), .int .i64 7, .int .i64 100, .int .i64 101] 45)).past hgl HGR.out HV.out)
            have HG5 := Lib.hid (grown_past (grown_trans HG3.out (World.grownBy_alloc w3 (.cells #[.int .i64 (50 + (L.length : Int)), .int .i64 7, .int .i64 100, .int .i64 101] 45) (some g))) HGR.out HV.out)
            have hll : (L ++ [(⟨(50 + (L.length : Int)), 7, 100, 101⟩ : XD)]).length = L.length + 1 := by simp
            clear HC3 HG3 HR3 HNA HX5 HGR HNE HV hv2
            go_roundw
            case rel => exact ⟨L ++ [⟨50 + (L.length : Int), 7, 100, 101⟩], gb2, cap2, _, by omega, by omega, by omega, hgb2, by first | rfl | rw [hll], HN5, HC5, HG5⟩
            case measure => simp [lenOfX]; omega
          · go_wp2_with fail
            go_ret
            exact ⟨L, gb, cap, _, by omega, by omega, by omega, hgb, HR3.out.cap, rfl, HR3.out, HC3.out, HG3.out⟩
      · have hq1 : ((q : Int) == 1) = false := beq_eq_false_iff_ne.2 (by omega)
        go_wp2_with fail
        go_ret
        exact ⟨L, gb, cap, _, by omega, by omega, by omega, hgb, HR2.out.cap, rfl, HR2.out, HC2.out, HG2.out⟩
end Go.Proofs.Ytlakdlghkniegaa
