/-
  Passes that are drawn: contract of spec.l1Cur.passes over this translation. Conditions: stated at each theorem.
-/
import Derived.Test.YtllfmjnniagjfaaJq
import Derived.Test.YtllfmjnniagjfaaJr
import Derived.Test.YtllfmjnniagjfaaPw
import Derived.Deep.DeepCutAuto
import Derived.Laws.IdiomStrings
namespace Go.Proofs.Ytllfmjnniagjfaa
open Go.RowKit Go.Sort

/-! ### Regions over a class of worlds, step by step in the world as it is -/
section
variable {P : Program} {ops : Array Oper} {Q : Exit → Act → World → Prop} {md : Region.Mode} {S : World → Prop}
theorem region_readsI {I : World → Prop} {id : Nat} {a : Act} {w : World} {l : List Oper} (n g : Nat) (R : List Nat) (hm : P.follows .mixedOrders = true) (hB : permRB l n R = true) (hg : R.length + g = l.length) (hW : I w.drew)
    (hQ : ∀ d v c a w, Q (.panic c) (Act.put a d v) w → Q (.panic c) a w)
    (h : wpQuiet P l.toArray (fun w' => ∃ x : InW I, w' = x.at_) (fun a' => wpAnyN P .any l.toArray Q (fun w' => ∃ x : InW I, w' = x.at_) n g (listR (Array.replicate l.length false) R) a' w.drew) (picks l R) a) : (Code.region id l.toArray true).wp P Q a w := by
  simp only [permRB, Bool.and_eq_true, decide_eq_true_eq] at hB
  obtain ⟨⟨⟨⟨⟨hsel, hn⟩, hs⟩, hc⟩, _⟩, hhead⟩ := hB
  have inv0 : HeadInv .any l.toArray n (Array.replicate l.length false) :=
    ⟨by simp, fun j oj _ hl => (by rw [getD_replicate_false] at hl; cases hl), fun t _ ht => getD_in (by simpa using ht) (getD_replicate_false _ _)⟩
  have hS : ∃ x : InW I, w.drew = x.at_ := ⟨⟨_, hW⟩, rfl⟩
  refine wp_region_any hm ?_
  have H := wpAnyN_readsW (md := .any) (Q := Q) (g := g) rfl hsel hs hc (by simpa using hn) hQ hS R (Array.replicate l.length false) a inv0 hhead h
  rw [hg] at H
  have := wpAny_of_N _ _ _ _ H
  simpa using this
theorem wpAnyN_restE {l : List Oper} {n g : Nat} {listed : Array Bool} {a : Act} {w : World} (L : List Nat) (hl : ops = l.toArray) (hs : Region.noSelect ops = true) (hg : L.length = g) (hB : pickB md ops L listed = true) (hS : S w)
    (h : wpQuiet P ops (fun w' => ∃ x : InW (fun u => u = w), w' = x.at_) (fun a' => Q .normal a' w) (picks l L) a) : wpAnyN P md ops Q S n g listed a w := by
  subst hg
  refine wpAnyN_of_quiet (C := fun w' => ∃ x : InW (fun u => u = w), w' = x.at_) (Qa := fun a' => Q .normal a' w) (fun a' w' hw' h' => by obtain ⟨x, rfl⟩ := hw'; rw [x.ok]; exact h') ?_ _ _ _ _ ⟨⟨w, rfl⟩, rfl⟩ (wpAnyQ_pick hl hs L _ _ hB h)
  rintro w' ⟨x, rfl⟩
  rw [x.ok]
  exact hS
end
theorem Cur.drew_6 {B : Nat} {A : Option Addr} {n c g k : Nat} {w : World} (h : Cur B A n c g k w) : Cur B A n c g k w.drew := ⟨h.code, h.pos, h.seed, h.free1, h.free2, h.row, h.old, h.lt⟩
theorem grown_drew6 {w W : World} {r : Option Nat} (h : w.grownBy W r) : w.grownBy W.drew r := ⟨h.os, h.tape, h.output, h.size, h.block⟩
theorem cellsSJ_one (L : List PS) : ∀ u ∈ cellsSJ L, u.oneCell' = true := by
  intro u hu
  simp only [cellsSJ, List.mem_flatMap, List.mem_cons, List.not_mem_nil, or_false] at hu
  obtain ⟨p, _, rfl | rfl | rfl | rfl | rfl | rfl⟩ := hu <;> rfl
/-- A row of the call's own that holds the passes L. -/
def RJ (base : Nat) (L : List PS) (v : Value) (W : World) : Prop := W.ownsRow base 40 6 v L.length (cellsSJ L)
theorem RJ.new (W : World) : RJ W.heap.size [] (.slice (some ⟨W.heap.size, 0, none⟩) 0 0) (W.alloc (.cells #[] 40)) :=
  World.ownsRow_made (base := W.heap.size) (e := 40) (size := 6) W #[] 0 (Nat.le_refl _) (by unfold maxLen; omega) (by simp)
theorem RJ.low {base base' : Nat} {L : List PS} {v : Value} {W : World} (h : RJ base L v W) (hb : base' ≤ base) : RJ base' L v W := own_base h hb
theorem RJ.draw {base : Nat} {L : List PS} {v : Value} {W W' : World} {g : Nat} (h : RJ base L v W) (hg : W.grownBy W' (some g)) (hb : g < base) : RJ base L v W' := own_any h hg (fun i e => by have := Option.some.inj e; omega)
theorem RJ.alloc {base : Nat} {L : List PS} {v : Value} {W : World} (h : RJ base L v W) (o : Obj) : RJ base L v (W.alloc o) := World.ownsRow.alloc h o
theorem RJ.past {base : Nat} {L : List PS} {v : Value} {W0 W W' : World} {r : Option Nat} (h0 : RJ base L v W0) (h : RJ base L v W) (hg : W.grownBy W' r) (hr : ∀ b, r = some b → W0.heap.size ≤ b) : RJ base L v W' := by
  refine World.ownsRow.kept h hg ?_
  by_cases e : v.ownBlock = none
  · exact .inl e
  · refine .inr fun e2 => ?_
    obtain ⟨b, hb⟩ := Option.ne_none_iff_exists'.1 e
    have h1 := (World.ownsRow.lt h0 b hb).2
    have h2 := hr b (e2.symm.trans hb)
    omega
theorem RJ.below {base : Nat} {L : List PS} {v : Value} {W W' : World} (h : RJ base L v W) (hb : Below W.heap.size W W') : RJ base L v W' := own_below h hb
theorem RJ.slice {base : Nat} {L : List PS} {v : Value} {W : World} (h : RJ base L v W) (hn : v ≠ .slice none 0 0) : ∃ gb cap, v = .slice (some ⟨gb, 0, none⟩) L.length cap ∧ base ≤ gb ∧ gb < W.heap.size := by
  rcases h.2 with ⟨e, _⟩ | ⟨gb, cap, cur, hv, hb, hc, _⟩
  · exact absurd e hn
  · exact ⟨gb, cap, hv, hb, (Array.getElem?_eq_some_iff.1 hc).1⟩
theorem RJ.cells {base : Nat} {L : List PS} {gb cap m : Nat} {W : World} (h : RJ base L (.slice (some ⟨gb, 0, none⟩) m cap) W) : ∀ j u, (cellsSJ L)[j]? = some u → W.cell? ((⟨gb, 0, none⟩ : Addr).add j) = some u := World.ownsRow.cells h rfl
theorem RJ.more {base : Nat} {L M : List PS} {v : Value} {W : World} (h : W.ownsRow base 40 6 v (L.length + M.length) (cellsSJ L ++ cellsSJ M)) : RJ base (L ++ M) v W := by
  unfold RJ
  have e : cellsSJ (L ++ M) = cellsSJ L ++ cellsSJ M := by simp [cellsSJ]
  rw [List.length_append, e]
  exact h
theorem cells_one6J (w : World) (v : PS) : ∀ j u, (cellsSJ [v])[j]? = some u → (w.alloc (.cells #[.int .i64 v.ln, .int .i64 v.bg, .int .i64 v.en, .int .i64 v.pi, .int .i64 v.bd, .int .i64 v.co] 40)).cell? ((⟨w.heap.size, 0, none⟩ : Addr).add j) = some u := by
  intro j u hu
  have h := Has.new w #[.int .i64 v.ln, .int .i64 v.bg, .int .i64 v.en, .int .i64 v.pi, .int .i64 v.bd, .int .i64 v.co] 40
  have he : cellsSJ [v] = [.int .i64 v.ln, .int .i64 v.bg, .int .i64 v.en, .int .i64 v.pi, .int .i64 v.bd, .int .i64 v.co] := rfl
  have hadd : (⟨w.heap.size, 0, none⟩ : Addr).add j = ⟨w.heap.size, j, none⟩ := by unfold Addr.add; split <;> simp_all
  rw [hadd]
  exact h.2.1 j u (by rw [he] at hu; simpa using hu)
theorem RJ.sds {base : Nat} {L : List PS} {gb cap : Nat} {W : World} (h : RJ base L (.slice (some ⟨gb, 0, none⟩) L.length cap) W) : SdsJ W W.heap.size (some ⟨gb, 0, none⟩) L.length L :=
  sds_of_fillJ (fillS_rowJ h rfl) rfl
theorem RJ.drew {base : Nat} {L : List PS} {v : Value} {W : World} (h : RJ base L v W) : RJ base L v W.drew := h
theorem RJ.cap {base : Nat} {L : List PS} {gb m cap : Nat} {W : World} (h : RJ base L (.slice (some ⟨gb, 0, none⟩) m cap) W) : L.length ≤ cap ∧ cap ≤ maxLen := by
  rcases h.2 with ⟨e, _⟩ | ⟨g, cap', cur, hv, hb, hc, r⟩
  · cases e
  · injection hv with h1 h2 h3
    subst h3
    exact ⟨r.1, r.2.1⟩
def EnB (L : List PS) : Prop := ∀ v ∈ L, 0 ≤ v.en ∧ v.en ≤ 20000
theorem enB_snoc {L : List PS} {v : PS} (h : EnB L) (h1 : 0 ≤ v.en) (h2 : v.en ≤ 20000) : EnB (L ++ [v]) := fun u hu => by
  rcases List.mem_append.1 hu with a | a
  · exact h u a
  · rw [List.mem_singleton.1 a]; exact ⟨h1, h2⟩
/-- What passes hands back. -/
def PassesAny (B : Nat) (A : Option Addr) (n c g k : Nat) (w : World) (e : Ending) (w' : World) : Prop :=
  ∃ (L : List PS) (gb cap k' : Nat), L.length ≤ 13 ∧ EnB L ∧ k ≤ k' ∧ k' ≤ k + 200 ∧ w.heap.size ≤ gb ∧ e = .returned (.slice (some ⟨gb, 0, none⟩) L.length cap) ∧ RJ w.heap.size L (.slice (some ⟨gb, 0, none⟩) L.length cap) w' ∧ Cur B A n c g k' w' ∧ w.grownBy w' (some g)
set_option maxRecDepth 100000 in
set_option maxHeartbeats 12800000 in
theorem passes_any (B : Nat) (A : Option Addr) (n c g k : Nat) (w : World) (h : Cur B A n c g k w) (hk : k < 700000) :
    Calls Try.prog 60 #[.pointer (some ⟨g, 0, none⟩)] w (PassesAny B A n c g k w) := by
  obtain ⟨i0, hi, hz0, hz1, hz2⟩ := info_parts infoSoundJ
  have HI := Lib.hid (And.intro hi (And.intro hz0 (And.intro hz1 hz2)))
  clear hi hz0 hz1 hz2
  have hgl := h.lt
  have HC0 := Lib.hid (h.alloc (.cells #[] 40))
  have HG0 : Hid (w.grownBy (w.alloc (.cells #[] 40)) (some g)) := Lib.hid (World.grownBy_alloc _ _ _)
  have HR0 := Lib.hid (RJ.new w)
  clear h
  obtain ⟨V0, hV0⟩ : ∃ V0, V0 = w.alloc (.cells #[] 40) := ⟨_, rfl⟩
  rw [← hV0] at HC0 HG0 HR0
  go_enter Try.func60, Try.ntmps60
  go_upto_region 2 with fail
  rw [← hV0]
  clear hV0
  go_wp2_with fail
  refine (among_at (fun x => 0 ≤ x ∧ x ≤ 9700) _ _ _ _ _ _ _ 3 [0, 100, 9700] _ HC0.out rfl (by omega) (by decide) (by decide) (by intro x hx; simp only [List.mem_cons, List.not_mem_nil, or_false] at hx; omega)).mono ?_
  rintro e w1 ⟨bg, ⟨bg0, bg1⟩, rfl, hc, hg⟩
  have HC1 := Lib.hid hc
  have HG1 := Lib.hid (grown_trans HG0.out hg)
  have HR1 := Lib.hid (HR0.out.draw hg hgl)
  clear hc hg HC0 HG0 HR0
  go_wp2_with fail
  refine (pick_any _ _ _ _ _ _ 9 _ HC1.out (by omega) (by decide) (by decide)).mono ?_
  rintro e w2 ⟨r, hr, rfl, hc, hg⟩
  have HC2 := Lib.hid hc
  have HG2 := Lib.hid (grown_trans HG1.out hg)
  have HR2 := Lib.hid (HR1.out.draw hg hgl)
  clear hc hg HC1 HG1 HR1
  go_wp2_with fail
  go_loopw [3, 4, 5] (fun s b i wr => ∃ (L : List PS) (gb cap k' r : Nat) (bg : Int), L.length + r ≤ 8 ∧ EnB L ∧ k ≤ k' ∧ k' + 11 * r ≤ k + 90 ∧ (0 ≤ bg ∧ bg + 60 * (r : Int) ≤ 10600) ∧ w.heap.size ≤ gb ∧ s = .slice (some ⟨gb, 0, none⟩) L.length cap ∧ b = .int .i64 bg ∧ i = .int .i64 r ∧ Hid (RJ w.heap.size L (.slice (some ⟨gb, 0, none⟩) L.length cap) wr) ∧ Hid (Cur B A n c g k' wr) ∧ Hid (w.grownBy wr (some g))) (fun _ _ i _ => (intOf i).toNat)
  case atStart => exact ⟨[], w.heap.size, 0, _, r, bg, by simp; omega, (fun v hv => by cases hv), by omega, by omega, by omega, Nat.le_refl _, rfl, rfl, rfl, HR2, HC2, HG2⟩
  case round =>
    clear HR2 HC2 HG2
    obtain ⟨L, gb, cap, k', r, bg, hlr, hEB, hk1, hk2, ⟨hb0, hb1⟩, hgb, rfl, rfl, rfl, hR, hC, hG⟩ := hrel
    by_cases hlt : 0 < r
    · obtain ⟨r, rfl⟩ : ∃ j, r = j + 1 := ⟨r - 1, by omega⟩
      have hr0 : decide (((r + 1 : Nat) : Int) > 0) = true := decide_eq_true (by omega)
      have hEBH := Lib.hid hEB
      go_wp2_with fail
      refine (pass_any _ _ _ _ _ _ bg _ hC.out (by omega) (by omega) (by omega)).mono ?_
      rintro e w3 ⟨v, k3, hen, hk3, hk4, rfl, hc, hg⟩
      have he0 : 0 ≤ v.en := by omega
      have he1 : v.en ≤ 20000 := by omega
      have hgs : g < w3.heap.size := hc.lt
      obtain ⟨X, hX⟩ : ∃ W, W = w3.alloc (.cells #[.int .i64 v.ln, .int .i64 v.bg, .int .i64 v.en, .int .i64 v.pi, .int .i64 v.bd, .int .i64 v.co] 40) := ⟨_, rfl⟩
      obtain ⟨q, hq⟩ : ∃ q, q = w3.heap.size := ⟨_, rfl⟩
      have HXQ : Hid (Has X q [.int .i64 v.ln, .int .i64 v.bg, .int .i64 v.en, .int .i64 v.pi, .int .i64 v.bd, .int .i64 v.co] ∧ q < X.heap.size) := by rw [hX, hq]; exact Lib.hid ⟨(box1 (Below.refl _ _)).2, by simp⟩
      have HCX : Hid (Cur B A n c g k3 X) := by rw [hX]; exact Lib.hid (hc.alloc _)
      have HGX : Hid (w.grownBy X (some g)) := by rw [hX]; exact Lib.hid (grown_trans (grown_trans hG.out hg) (World.grownBy_alloc _ _ _))
      have hR3 := hR.out.draw hg hgl
      have hgb3 : gb < w3.heap.size := by
        rcases hR3.2 with ⟨e, _⟩ | ⟨gx, cx, cur, hv, _, hcx, _⟩
        · cases e
        · injection hv with h1 h2 h3
          injection h1 with h1
          injection h1 with h1 _ _
          subst h1
          exact (Array.getElem?_eq_some_iff.1 hcx).1
      have HRX : Hid (RJ w.heap.size L (.slice (some ⟨gb, 0, none⟩) L.length cap) X) := by rw [hX]; exact Lib.hid (hR3.alloc _)
      have HQN : Hid (q ≠ gb ∧ q ≠ g ∧ w.heap.size ≤ q) := Lib.hid ⟨by omega, by omega, by have := hG.out.size; have := hg.size; omega⟩
      have a0 := HXQ.out.1.at_ 0 _ rfl
      have a1 := HXQ.out.1.at_ 1 _ rfl
      have a2 := HXQ.out.1.at_ 2 _ rfl
      have a3 := HXQ.out.1.at_ 3 _ rfl
      have a4 := HXQ.out.1.at_ 4 _ rfl
      have a5 := HXQ.out.1.at_ 5 _ rfl
      have HE := Lib.hid hX
      clear hX hc hg hC hG hR hR3 hEB
      go_upto_region 7 with fail
      rw [← HE.out, ← hq]
      clear HE hq hgb3 hgs
      have HNA := Lib.hid (HRX.out.alloc (.cells #[.int .i64 v.ln, .int .i64 v.bg, .int .i64 v.en, .int .i64 v.pi, .int .i64 v.bd, .int .i64 v.co] 40))
      have HX5 := Lib.hid (cells_one6J X v)
      have HS4 : Hid (w.heap.size ≤ (X.alloc (.cells #[.int .i64 v.ln, .int .i64 v.bg, .int .i64 v.en, .int .i64 v.pi, .int .i64 v.bd, .int .i64 v.co] 40)).heap.size) := Lib.hid (by have := HGX.out.size; simp; omega)
      have HV : Hid (∀ b, (Value.slice (some ⟨gb, 0, none⟩) L.length cap).ownBlock = some b → w.heap.size ≤ b) := Lib.hid fun b e => by have : gb = b := Option.some.inj e; omega
      go_wp2_with (at_builtin; go_loud (refine wpList_append_own _ rfl _ _ 24 rfl w.heap.size 40 i0 (.agg #[.int .i64 0, .int .i64 0, .int .i64 0, .int .i64 0, .int .i64 0, .int .i64 0]) 6 48 Try.underlying24 HI.out.1 HI.out.2.1 HI.out.2.2.1 HI.out.2.2.2 rfl (by decide) _ _ _ rfl HNA.out ⟨X.heap.size, 0, none⟩ 1 1 (cellsSJ [v]) rfl rfl HX5.out (cellsSJ_one [v]) (by unfold maxLen; omega) (by omega) HS4.out ?_; intro v2 w5 hown' hgrow hne; have HN5 := Lib.hid (RJ.more (M := [v]) hown'); have HGR := Lib.hid hgrow; have HNE := Lib.hid hne; have HQ5 := Lib.hid (has_grown (HXQ.out.1.alloc _) hgrow (fun e => HQN.out.1 (Option.some.inj e))); clear hown' hgrow hne))
      have hv2 : v2 ≠ .slice none 0 0 := fun e => by have := (HNE.out.1 e).2; omega
      obtain ⟨gb2, cap2, rfl, hgb2, hgbs⟩ := HN5.out.slice hv2
      have HC5 := Lib.hid ((HCX.out.alloc (.cells #[.int .i64 v.ln, .int .i64 v.bg, .int .i64 v.en, .int .i64 v.pi, .int .i64 v.bd, .int .i64 v.co] 40)).past hgl HGR.out HV.out)
      have HG5 := Lib.hid (grown_past (grown_trans HGX.out (World.grownBy_alloc X (.cells #[.int .i64 v.ln, .int .i64 v.bg, .int .i64 v.en, .int .i64 v.pi, .int .i64 v.bd, .int .i64 v.co] 40) (some g))) HGR.out HV.out)
      have hll : (L ++ [v]).length = L.length + 1 := by simp
      clear HCX HGX HRX HNA HX5 HGR HNE HV hv2
      clear a0 a1 a2 a3 a4 a5
      have HEN := Lib.hid hen
      obtain ⟨V, hV⟩ : ∃ V, V = w5.drew := ⟨_, rfl⟩
      have HCV : Hid (Cur B A n c g k3 V) := by rw [hV]; exact Lib.hid HC5.out.drew_6
      have HGV : Hid (w.grownBy V (some g)) := by rw [hV]; exact Lib.hid (grown_drew6 HG5.out)
      have HRV : Hid (RJ w.heap.size (L ++ [v]) (.slice (some ⟨gb2, 0, none⟩) (L ++ [v]).length cap2) V) := by rw [hV]; exact Lib.hid HN5.out.drew
      have HQV : Hid (Has V q [.int .i64 v.ln, .int .i64 v.bg, .int .i64 v.en, .int .i64 v.pi, .int .i64 v.bd, .int .i64 v.co]) := by rw [hV]; exact Lib.hid HQ5.out.drew
      have hcq : w5.drew.cell? ⟨q, 2, none⟩ = some (.int .i64 v.en) := HQ5.out.drew.at_ 2 _ rfl
      have hne : Nonempty {u : World // u.cell? ⟨q, 2, none⟩ = some (.int .i64 v.en)} := ⟨⟨_, hcq⟩⟩
      have lc2 : ∀ x : InW (fun V => V.cell? ⟨q, 2, none⟩ = some (.int .i64 v.en)), x.at_.cell? ⟨q, 2, none⟩ = some (.int .i64 v.en) := fun x => x.ok
      have HVE := Lib.hid hV
      clear hen hV HC5 HG5 HN5 HQ5
      refine region_readsI (I := fun V => V.cell? ⟨q, 2, none⟩ = some (.int .i64 v.en)) 10 7 [0, 1, 2, 6] (by kernel_rfl) (by kernel_rfl) rfl hcq (fun d _ _ _ _ h => by cases d <;> exact h) ?_
      clear hcq
      simp only [picks, List.getElem?_cons_succ, List.getElem?_cons_zero]
      repeat (go_big_quiet_step (fail))
      refine wpQuiet_nil ?_
      rw [← HVE.out]
      clear HVE lc2
      have hVg : g < V.heap.size := HCV.out.lt
      refine wpAnyN_one (i := 3) (by kernel_rfl) ?_
      refine wpOp_step rfl (fun K hK => ?_)
      rw [if_pos (by rfl)]
      go_simp
      refine hK _ _ ⟨⟨⟨_, (HQV.out.alloc _).at_ 2 _ rfl⟩, rfl⟩, ?_⟩
      clear hK K
      refine wpAnyN_one (i := 4) (by kernel_rfl) ?_
      refine wpOp_step rfl (fun K hK => ?_)
      rw [if_pos (by rfl)]
      go_simp
      refine (among_at (fun x => 0 ≤ x ∧ x ≤ 30) _ _ _ _ _ _ _ 4 [0, 0, 5, 30] _ HCV.out rfl (by omega) (by decide) (by decide) (by intro x hx; simp only [List.mem_cons, List.not_mem_nil, or_false] at hx; omega)).mono ?_
      rintro e w6 ⟨x, ⟨hx0, hx1⟩, rfl, hc, hg⟩
      have HC6 := Lib.hid hc
      have HG6 := Lib.hid (grown_trans HGV.out hg)
      have HR6 := Lib.hid (HRV.out.draw hg hgl)
      have HQ6 := Lib.hid (has_grown HQV.out hg (fun e => HQN.out.2.1 (Option.some.inj e)))
      clear hc hg HCV HGV HRV HQV
      refine hK _ _ ⟨⟨⟨_, HQ6.out.at_ 2 _ rfl⟩, rfl⟩, ?_⟩
      clear hK K
      refine wpAnyN_readsW (R := [5]) (g := 4) rfl (by kernel_rfl) (by kernel_rfl) (by kernel_rfl) (by decide) (fun d _ _ _ _ h => by cases d <;> exact h) ⟨⟨_, HQ6.out.at_ 2 _ rfl⟩, rfl⟩ _ _ (headInv_of (by kernel_rfl)) (by kernel_rfl) ?_
      simp only [picks, List.getElem?_cons_succ, List.getElem?_cons_zero]
      repeat (go_big_quiet_step (fail))
      refine wpQuiet_nil ?_
      refine wpAnyN_one (i := 7) (by kernel_rfl) ?_
      refine wpOp_step rfl (fun K hK => ?_)
      rw [if_pos (by rfl)]
      go_simp
      refine (pick_any _ _ _ _ _ _ 90 _ HC6.out (by omega) (by decide) (by decide)).mono ?_
      rintro e w7 ⟨y, hy, rfl, hc, hg⟩
      have HC7 := Lib.hid hc
      have HG7 := Lib.hid (grown_trans HG6.out hg)
      have HR7 := Lib.hid (HR6.out.draw hg hgl)
      have HQ7 := Lib.hid (has_grown HQ6.out hg (fun e => HQN.out.2.1 (Option.some.inj e)))
      clear hc hg HC6 HG6 HR6 HQ6
      refine hK _ _ ⟨⟨⟨_, HQ7.out.at_ 2 _ rfl⟩, rfl⟩, ?_⟩
      clear hK K
      obtain ⟨z, hz, hz0, hz1⟩ : ∃ z : Nat, (y : Int) / 89 = z ∧ 0 ≤ z ∧ z ≤ 1 := ⟨y / 89, by omega, by omega, by omega⟩
      have hne7 : Nonempty {u : World // u = w7} := ⟨⟨w7, rfl⟩⟩
      refine wpAnyN_restE [8, 9, 10] rfl (by kernel_rfl) rfl (by kernel_rfl) ⟨⟨_, HQ7.out.at_ 2 _ rfl⟩, rfl⟩ ?_
      simp only [picks, List.getElem?_cons_succ, List.getElem?_cons_zero]
      repeat (go_big_quiet_step (fail))
      refine wpQuiet_nil ?_
      have hen := HEN.out
      have HB9 : Hid (0 ≤ v.en + x - z ∧ v.en + x - z + 60 * (r : Int) ≤ 10600) := Lib.hid (by omega)
      have HEB5 := Lib.hid (enB_snoc hEBH.out he0 he1)
      clear hen
      go_wp2_with fail
      go_roundw
      case rel => exact ⟨L ++ [v], gb2, cap2, _, r, v.en + x - z, by omega, HEB5.out, by omega, by omega, HB9.out, hgb2, by first | rfl | rw [hll], by first | rfl | go_num, by go_num, HR7, HC7, HG7⟩
      case measure => simp [intOf]
    · obtain rfl : r = 0 := by omega
      have hEBH := Lib.hid hEB
      go_wp2_with fail
      refine (one_any _ _ _ _ _ _ 24 _ hC.out (by omega) (by decide) (by decide)).mono ?_
      rintro e w3 ⟨b, rfl, hc, hg⟩
      have HC3 := Lib.hid hc
      have HG3 := Lib.hid (grown_trans hG.out hg)
      have HR3 := Lib.hid (hR.out.draw hg hgl)
      clear hc hg hC hG hR
      rcases b with _ | _
      · go_wp2_with fail
        go_ret
        exact ⟨L, gb, cap, _, by omega, hEBH.out, by omega, by omega, hgb, rfl, HR3.out, HC3.out, HG3.out⟩
      · have HZ3 := Lib.hid HG3.out.size
        have HCN := Lib.hid (HC3.out.alloc (.cells #[] 40))
        have HGN := Lib.hid (grown_trans HG3.out (World.grownBy_alloc w3 (.cells #[] 40) (some g)))
        have HRN := Lib.hid ((RJ.new w3).low HZ3.out)
        clear HC3 HG3 HR3
        go_wp2_with fail
        go_loopw [3, 7] (fun s i wr => ∃ (L : List PS) (gb cap k' : Nat), L.length ≤ 13 ∧ EnB L ∧ k ≤ k' ∧ k' ≤ k + 95 + L.length ∧ w.heap.size ≤ gb ∧ s = .slice (some ⟨gb, 0, none⟩) L.length cap ∧ i = .int .i64 L.length ∧ Hid (RJ w.heap.size L (.slice (some ⟨gb, 0, none⟩) L.length cap) wr) ∧ Hid (Cur B A n c g k' wr) ∧ Hid (w.grownBy wr (some g))) (fun _ i _ => 13 - (intOf i).toNat)
        case atStart => exact ⟨[], w3.heap.size, 0, _, by simp, (fun v hv => by cases hv), by omega, by simp; omega, HZ3.out, rfl, rfl, HRN, HCN, HGN⟩
        case round =>
          clear HRN HCN HGN
          obtain ⟨L, gb, cap, k', hl, hEB, hk1, hk2, hgb, rfl, rfl, hR, hC, hG⟩ := hrel
          have hEBH := Lib.hid hEB
          go_wp2_with fail
          refine (pick_any _ _ _ _ _ _ 2 _ hC.out (by omega) (by decide) (by decide)).mono ?_
          rintro e w4 ⟨u, hu, rfl, hc, hg⟩
          have HC4 := Lib.hid hc
          have HG4 := Lib.hid (grown_trans hG.out hg)
          have HR4 := Lib.hid (hR.out.draw hg hgl)
          clear hc hg hC hG hR hEB
          by_cases hlu : (L.length : Int) < 12 + u
          · skip
            have HNA := Lib.hid (HR4.out.alloc (.cells #[.int .i64 (1 + (L.length : Int) % 3), .int .i64 (10 * (L.length : Int)), .int .i64 (10 * (L.length : Int) + 8), .int .i64 50, .int .i64 (L.length : Int), .int .i64 0] 40))
            have HX5 := Lib.hid (cells_one6J w4 (⟨(1 + (L.length : Int) % 3), (10 * (L.length : Int)), (10 * (L.length : Int) + 8), 50, (L.length : Int), 0⟩ : PS))
            have HS4 : Hid (w.heap.size ≤ (w4.alloc (.cells #[.int .i64 (1 + (L.length : Int) % 3), .int .i64 (10 * (L.length : Int)), .int .i64 (10 * (L.length : Int) + 8), .int .i64 50, .int .i64 (L.length : Int), .int .i64 0] 40)).heap.size) := Lib.hid (by have := HG4.out.size; simp; omega)
            have HV : Hid (∀ b, (Value.slice (some ⟨gb, 0, none⟩) L.length cap).ownBlock = some b → w.heap.size ≤ b) := Lib.hid fun b e => by have : gb = b := Option.some.inj e; omega
            go_wp2_with (at_builtin; go_loud (refine wpList_append_own _ rfl _ _ 24 rfl w.heap.size 40 i0 (.agg #[.int .i64 0, .int .i64 0, .int .i64 0, .int .i64 0, .int .i64 0, .int .i64 0]) 6 48 Try.underlying24 HI.out.1 HI.out.2.1 HI.out.2.2.1 HI.out.2.2.2 rfl (by decide) _ _ _ rfl HNA.out ⟨w4.heap.size, 0, none⟩ 1 1 [.int .i64 (1 + (L.length : Int) % 3), .int .i64 (10 * (L.length : Int)), .int .i64 (10 * (L.length : Int) + 8), .int .i64 50, .int .i64 (L.length : Int), .int .i64 0] rfl rfl HX5.out (cellsSJ_one [(⟨(1 + (L.length : Int) % 3), (10 * (L.length : Int)), (10 * (L.length : Int) + 8), 50, (L.length : Int), 0⟩ : PS)]) (by unfold maxLen; omega) (by omega) HS4.out ?_; intro v2 w5 hown' hgrow hne; have HN5 := Lib.hid (RJ.more (M := [(⟨(1 + (L.length : Int) % 3), (10 * (L.length : Int)), (10 * (L.length : Int) + 8), 50, (L.length : Int), 0⟩ : PS)]) hown'); have HGR := Lib.hid hgrow; have HNE := Lib.hid hne; clear hown' hgrow hne))
            have hv2 : v2 ≠ .slice none 0 0 := fun e => by have := (HNE.out.1 e).2; omega
            obtain ⟨gb2, cap2, rfl, hgb2, hgbs⟩ := HN5.out.slice hv2
            have HC5 := Lib.hid ((HC4.out.alloc (.cells #[.int .i64 (1 + (L.length : Int) % 3), .int .i64 (10 * (L.length : Int)), .int .i64 (10 * (L.length : Int) + 8), .int .i64 50, .int .i64 (L.length : Int), .int .i64 0] 40)).past hgl HGR.out HV.out)
            have HG5 := Lib.hid (grown_past (grown_trans HG4.out (World.grownBy_alloc w4 (.cells #[.int .i64 (1 + (L.length : Int) % 3), .int .i64 (10 * (L.length : Int)), .int .i64 (10 * (L.length : Int) + 8), .int .i64 50, .int .i64 (L.length : Int), .int .i64 0] 40) (some g))) HGR.out HV.out)
            have hll : (L ++ [(⟨(1 + (L.length : Int) % 3), (10 * (L.length : Int)), (10 * (L.length : Int) + 8), 50, (L.length : Int), 0⟩ : PS)]).length = L.length + 1 := by simp
            clear HC4 HG4 HR4 HNA HX5 HGR HNE HV hv2
            have HEB5 : Hid (EnB (L ++ [⟨1 + (L.length : Int) % 3, 10 * (L.length : Int), 10 * (L.length : Int) + 8, 50, (L.length : Int), 0⟩])) := Lib.hid (enB_snoc hEBH.out (by show (0 : Int) ≤ 10 * (L.length : Int) + 8; omega) (by show 10 * (L.length : Int) + 8 ≤ 20000; omega))
            go_roundw
            case rel => exact ⟨L ++ [⟨1 + (L.length : Int) % 3, 10 * (L.length : Int), 10 * (L.length : Int) + 8, 50, (L.length : Int), 0⟩], gb2, cap2, _, by omega, HEB5.out, by omega, by omega, hgb2, by first | rfl | rw [hll], by rw [hll]; go_num, HN5, HC5, HG5⟩
            case measure => simp [intOf]; omega
          · go_wp2_with fail
            go_ret
            exact ⟨L, gb, cap, _, by omega, hEBH.out, by omega, by omega, hgb, rfl, HR4.out, HC4.out, HG4.out⟩
end Go.Proofs.Ytllfmjnniagjfaa
