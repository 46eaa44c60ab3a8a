/-
  Contracts of impl.isInBox, spec.l2In, impl.SpotsIn, spec.SpotsIn over this translation. Conditions: stated at each theorem.
-/
import Derived.Test.YtjnimedbjmihaaaBx
import Derived.Test.YtjnimedbjmihaaaNear
import Derived.Test.YtjnimedbjmihaaaInts
import Derived.Sort.Grow
import Derived.Maps.AppendAt
namespace Go.Proofs.Ytjnimedbjmihaaa
open Go.RowKit Go.Sort

theorem isBox_impl_w (a b c d : Int) (v : Bool) (h : boxB a b c d = v) (w : World) :
    Calls Try.prog 26 #[.agg #[.int .i64 a, .int .i64 b, .int .i64 c, .int .i64 d]] w fun e w' => e = .returned (.bool v) ∧ Below w.heap.size w w' := h ▸ isBox_impl a b c d w
theorem l2Box_w (a b c d : Int) (v : Bool) (h : boxB a b c d = v) (w : World) :
    Calls Try.prog 67 #[.agg #[.int .i64 a, .int .i64 b, .int .i64 c, .int .i64 d]] w fun e w' => e = .returned (.bool v) ∧ Below w.heap.size w w' := h ▸ l2Box_any a b c d w
/-! ### Is a spot in a box? -/
def inBoxB (a b c d x y : Int) : Bool := inB x a c && inB y b d
theorem within_v (n lo hi : Int) (v : Bool) (h : inB n lo hi = v) (w : World) :
    Calls Try.prog 60 #[.int .i64 n, .int .i64 lo, .int .i64 hi] w fun e w' => e = .returned (.bool v) ∧ w = w' := h ▸ within_any n lo hi w
theorem l1In_v (n lo hi : Int) (v : Bool) (h : inB n lo hi = v) (w : World) :
    Calls Try.prog 79 #[.int .i64 n, .int .i64 lo, .int .i64 hi] w fun e w' => e = .returned (.bool v) ∧ w = w' := h ▸ l1In_any n lo hi w
theorem inBox_impl (a b c d x y : Int) (w : World) :
    Calls Try.prog 61 #[.agg #[.int .i64 x, .int .i64 y], .agg #[.int .i64 a, .int .i64 b, .int .i64 c, .int .i64 d]] w fun e w' => e = .returned (.bool (inBoxB a b c d x y)) ∧ Below w.heap.size w w' := by
  rcases h1 : inB x a c with _ | _
  · have HR : Hid (inBoxB a b c d x y = false) := by unfold Hid inBoxB; rw [h1]; rfl
    have H1 := Lib.hid h1
    clear h1
    go_enter Try.func61, Try.ntmps61
    go_wp2_with fail
    refine (within_v _ _ _ _ H1.out _).mono ?_
    rintro e w' ⟨rfl, rfl⟩
    go_wp2_with fail
    go_ret
    exact ⟨ret_bool HR.out.symm, ((Below.refl _ _).alloc (Nat.le_refl _) _).alloc (by simp) _⟩
  rcases h2 : inB y b d with _ | _
  · have HR : Hid (inBoxB a b c d x y = false) := by unfold Hid inBoxB; rw [h1, h2]; rfl
    have H1 := Lib.hid h1
    have H2 := Lib.hid h2
    clear h1 h2
    go_enter Try.func61, Try.ntmps61
    go_wp2_with fail
    refine (within_v _ _ _ _ H1.out _).mono ?_
    rintro e w' ⟨rfl, rfl⟩
    go_wp2_with fail
    refine (within_v _ _ _ _ H2.out _).mono ?_
    rintro e w' ⟨rfl, rfl⟩
    go_wp2_with fail
    go_ret
    exact ⟨ret_bool HR.out.symm, ((Below.refl _ _).alloc (Nat.le_refl _) _).alloc (by simp) _⟩
  · have HR : Hid (inBoxB a b c d x y = true) := by unfold Hid inBoxB; rw [h1, h2]; rfl
    have H1 := Lib.hid h1
    have H2 := Lib.hid h2
    clear h1 h2
    go_enter Try.func61, Try.ntmps61
    go_wp2_with fail
    refine (within_v _ _ _ _ H1.out _).mono ?_
    rintro e w' ⟨rfl, rfl⟩
    go_wp2_with fail
    refine (within_v _ _ _ _ H2.out _).mono ?_
    rintro e w' ⟨rfl, rfl⟩
    go_wp2_with fail
    go_ret
    exact ⟨ret_bool HR.out.symm, ((Below.refl _ _).alloc (Nat.le_refl _) _).alloc (by simp) _⟩
theorem inBox_spec (a b c d x y : Int) (w : World) :
    Calls Try.prog 68 #[.agg #[.int .i64 x, .int .i64 y], .agg #[.int .i64 a, .int .i64 b, .int .i64 c, .int .i64 d]] w fun e w' => e = .returned (.bool (inBoxB a b c d x y)) ∧ Below w.heap.size w w' := by
  rcases h1 : inB x a c with _ | _
  · have HR : Hid (inBoxB a b c d x y = false) := by unfold Hid inBoxB; rw [h1]; rfl
    have H1 := Lib.hid h1
    clear h1
    go_enter Try.func68, Try.ntmps68
    go_wp2_with fail
    refine (l1In_v _ _ _ _ H1.out _).mono ?_
    rintro e w' ⟨rfl, rfl⟩
    go_wp2_with fail
    go_ret
    exact ⟨ret_bool HR.out.symm, ((Below.refl _ _).alloc (Nat.le_refl _) _).alloc (by simp) _⟩
  rcases h2 : inB y b d with _ | _
  · have HR : Hid (inBoxB a b c d x y = false) := by unfold Hid inBoxB; rw [h1, h2]; rfl
    have H1 := Lib.hid h1
    have H2 := Lib.hid h2
    clear h1 h2
    go_enter Try.func68, Try.ntmps68
    go_wp2_with fail
    refine (l1In_v _ _ _ _ H1.out _).mono ?_
    rintro e w' ⟨rfl, rfl⟩
    go_wp2_with fail
    refine (l1In_v _ _ _ _ H2.out _).mono ?_
    rintro e w' ⟨rfl, rfl⟩
    go_wp2_with fail
    go_ret
    exact ⟨ret_bool HR.out.symm, ((Below.refl _ _).alloc (Nat.le_refl _) _).alloc (by simp) _⟩
  · have HR : Hid (inBoxB a b c d x y = true) := by unfold Hid inBoxB; rw [h1, h2]; rfl
    have H1 := Lib.hid h1
    have H2 := Lib.hid h2
    clear h1 h2
    go_enter Try.func68, Try.ntmps68
    go_wp2_with fail
    refine (l1In_v _ _ _ _ H1.out _).mono ?_
    rintro e w' ⟨rfl, rfl⟩
    go_wp2_with fail
    refine (l1In_v _ _ _ _ H2.out _).mono ?_
    rintro e w' ⟨rfl, rfl⟩
    go_wp2_with fail
    go_ret
    exact ⟨ret_bool HR.out.symm, ((Below.refl _ _).alloc (Nat.le_refl _) _).alloc (by simp) _⟩
/-! ### SpotsIn -/
theorem info3 : (Try.prog.info? 3).map (fun i => (i.zero, i.size, i.bytes)) = some (some (.int .i64 0), 1, 8) := by kernel_rfl
/-- The places below k of the spots in the box. -/
def inK (a b c d : Int) (l : List (Int × Int)) (k : Nat) : List Int := ((List.range k).filter (fun i : Nat => inBoxB a b c d (l.getD i (0, 0)).1 (l.getD i (0, 0)).2)).map (fun i : Nat => (i : Int))
theorem inK_yes {a b c d : Int} {l : List (Int × Int)} {k : Nat} {x y : Int} (h : l[k]? = some (x, y)) (hv : inBoxB a b c d x y = true) : inK a b c d l (k + 1) = inK a b c d l k ++ [(k : Int)] := by
  have e : inBoxB a b c d (l.getD k (0, 0)).1 (l.getD k (0, 0)).2 = true := by rw [List.getD_eq_getElem?_getD, h]; exact hv
  unfold inK
  rw [List.range_succ, List.filter_append, List.map_append]
  simp only [List.filter_cons, List.filter_nil, e, if_true, List.map_cons, List.map_nil]
theorem inK_no {a b c d : Int} {l : List (Int × Int)} {k : Nat} {x y : Int} (h : l[k]? = some (x, y)) (hv : inBoxB a b c d x y = false) : inK a b c d l (k + 1) = inK a b c d l k := by
  have e : inBoxB a b c d (l.getD k (0, 0)).1 (l.getD k (0, 0)).2 = false := by rw [List.getD_eq_getElem?_getD, h]; exact hv
  unfold inK
  rw [List.range_succ, List.filter_append, List.map_append]
  simp only [List.filter_cons, List.filter_nil, e, Bool.false_eq_true, if_false, List.map_nil, List.append_nil]
theorem inK_len (a b c d : Int) (l : List (Int × Int)) (k : Nat) : (inK a b c d l k).length ≤ k := by
  unfold inK
  rw [List.length_map]
  have := List.length_filter_le (fun i : Nat => inBoxB a b c d (l.getD i (0, 0)).1 (l.getD i (0, 0)).2) (List.range k)
  simpa using this
def inOk (a b c d : Int) (l : List (Int × Int)) : Bool := spotsB l && boxB a b c d
def inX (a b c d : Int) (l : List (Int × Int)) : List Int := if inOk a b c d l = true then inK a b c d l l.length else []
/-- What SpotsIn hands back. -/
def InPost (a b c d : Int) (l : List (Int × Int)) (w : World) (e : Ending) (w' : World) : Prop :=
  ∃ A cap, e = .returned (.tuple #[.slice A (inX a b c d l).length cap, .bool (inOk a b c d l)]) ∧ IFun w' w.heap.size w'.heap.size A (inX a b c d l).length (fun j => (inX a b c d l).getD j 0) ∧ Below w.heap.size w w'
theorem in_no {a b c d : Int} {l : List (Int × Int)} (h : inOk a b c d l = false) {w w' : World} (A : Option Addr) (cap : Nat) (hb : Below w.heap.size w w') : InPost a b c d l w (.returned (.tuple #[.slice A 0 cap, .bool false])) w' := by
  have e : inX a b c d l = [] := by unfold inX; rw [h]; rfl
  refine ⟨A, cap, ?_, ?_, hb⟩
  · rw [e, h]; rfl
  · rw [e]; intro k hk; exact absurd hk (by simp)
theorem in_yes {a b c d : Int} {l : List (Int × Int)} (h : inOk a b c d l = true) {w w' : World} {v : Value} {n : Nat} (ho : w'.ownsRow w.heap.size 3 1 v n ((inK a b c d l l.length).map (Value.int .i64))) (hb : Below w.heap.size w w') : InPost a b c d l w (.returned (.tuple #[v, .bool true])) w' := by
  have e : inX a b c d l = inK a b c d l l.length := by unfold inX; rw [if_pos h]
  have hn : n = (inK a b c d l l.length).length := by have := ho.1; simp at this; exact this.symm
  subst hn
  obtain ⟨A, cap, rfl⟩ : ∃ A cap, v = .slice A (inK a b c d l l.length).length cap := by
    rcases ho.2 with ⟨h1, h2⟩ | ⟨g, cap, cur, hv, _⟩
    · exact ⟨none, 0, by rw [h1, h2]⟩
    · exact ⟨_, _, hv⟩
  refine ⟨A, cap, ?_, ?_, hb⟩
  · rw [e, h]
  · rw [e]; exact ifun_of_own ho
theorem own_below3 {W W' : World} {B n : Nat} {v : Value} {xs : List Value} (h : W.ownsRow B 3 1 v n xs) (hb : Below W.heap.size W W') : W'.ownsRow B 3 1 v n xs :=
  h.kept (row := none) ⟨hb.os, hb.tape, hb.output, hb.size, fun k hk _ => hb.block k hk⟩ (Classical.em _)
theorem own_base {W : World} {B B' n : Nat} {v : Value} {xs : List Value} (h : W.ownsRow B 3 1 v n xs) (hB : B' ≤ B) : W.ownsRow B' 3 1 v n xs := by
  obtain ⟨h1, h2⟩ := h
  rcases h2 with h | ⟨g, cap, cur, hv, hb, r⟩
  · exact ⟨h1, .inl h⟩
  · exact ⟨h1, .inr ⟨g, cap, cur, hv, Nat.le_trans hB hb, r⟩⟩
theorem has_grown {W W' : World} {g : Nat} {cs : List Value} {row : Option Nat} (h : Has W g cs) (hg : W.grownBy W' row) (hr : some g ≠ row) : Has W' g cs :=
  ⟨Nat.lt_of_lt_of_le h.1 hg.size, fun j u hu => (World.cell?_of_block (a := ⟨g, j, none⟩) (hg.block g h.1 hr)).trans (h.2.1 j u hu), fun j => (World.frozen?_of_block (a := ⟨g, j, none⟩) (hg.block g h.1 hr)).trans (h.2.2 j)⟩
/-- Where a round of the loop stands. -/
def InRel (a b c d : Int) (l : List (Int × Int)) (w : World) (k : Nat) (v : Value) (wr : World) : Prop :=
  wr.ownsRow (w.heap.size + 1) 3 1 v (inK a b c d l k).length ((inK a b c d l k).map (Value.int .i64)) ∧ Below w.heap.size w wr ∧ Has wr w.heap.size [.int .i64 a, .int .i64 b, .int .i64 c, .int .i64 d]
theorem InRel.next {a b c d : Int} {l : List (Int × Int)} {w wr w1 : World} {k : Nat} {v : Value} (h : InRel a b c d l w k v wr) (hb : Below wr.heap.size wr w1) : InRel a b c d l w k v w1 :=
  ⟨own_below3 h.1 hb, bthen h.2.1 hb h.2.1.size, h.2.2.next hb⟩
theorem InRel.step {a b c d : Int} {l : List (Int × Int)} {w w1 w2 : World} {k : Nat} {v v' : Value} {o : Obj} (h : InRel a b c d l w k v w1)
    (ho : w2.ownsRow (w.heap.size + 1) 3 1 v' ((inK a b c d l k).length + 1) ((inK a b c d l k).map (Value.int .i64) ++ [.int .i64 k])) (hg : (w1.alloc o).grownBy w2 v.ownBlock)
    {x y : Int} (hl : l[k]? = some (x, y)) (hv : inBoxB a b c d x y = true) : InRel a b c d l w (k + 1) v' w2 := by
  have hlt : ∀ j, v.ownBlock = some j → w.heap.size + 1 ≤ j := fun j hj => (h.1.lt j hj).1
  refine ⟨?_, (h.2.1.alloc h.2.1.size o).grown hg (by have := h.2.1.size; simp; omega) (fun j hj => by have := hlt j hj; omega), has_grown (h.2.2.alloc o) hg (fun e => by have := hlt _ e.symm; omega)⟩
  rw [inK_yes hl hv]
  simpa using ho
theorem in_start (a b c d : Int) (l : List (Int × Int)) (w : World) : InRel a b c d l w 0 (.slice (some ⟨w.heap.size + 1, 0, none⟩) 0 0) ((w.alloc (.cells #[.int .i64 a, .int .i64 b, .int .i64 c, .int .i64 d] 35)).alloc (.cells #[] 3)) := by
  refine ⟨?_, ((Below.refl _ _).alloc (Nat.le_refl _) _).alloc (by simp) _, (Has.new _ _ _).alloc _⟩
  have h := World.ownsRow_made (base := w.heap.size + 1) (e := 3) (size := 1) (w.alloc (.cells #[.int .i64 a, .int .i64 b, .int .i64 c, .int .i64 d] 35)) #[] 0 (by simp) (by unfold maxLen; omega) (by simp)
  rw [World.size_alloc] at h
  exact h
theorem InRel.skip {a b c d : Int} {l : List (Int × Int)} {w w1 : World} {k : Nat} {v : Value} (h : InRel a b c d l w k v w1) {x y : Int} (hl : l[k]? = some (x, y)) (hv : inBoxB a b c d x y = false) : InRel a b c d l w (k + 1) v w1 := by
  unfold InRel
  rw [inK_no hl hv]
  exact h
theorem inBox_spec_v (a b c d x y : Int) (v : Bool) (h : inBoxB a b c d x y = v) (w : World) :
    Calls Try.prog 68 #[.agg #[.int .i64 x, .int .i64 y], .agg #[.int .i64 a, .int .i64 b, .int .i64 c, .int .i64 d]] w fun e w' => e = .returned (.bool v) ∧ Below w.heap.size w w' := h ▸ inBox_spec a b c d x y w
theorem inBox_impl_v (a b c d x y : Int) (v : Bool) (h : inBoxB a b c d x y = v) (w : World) :
    Calls Try.prog 61 #[.agg #[.int .i64 x, .int .i64 y], .agg #[.int .i64 a, .int .i64 b, .int .i64 c, .int .i64 d]] w fun e w' => e = .returned (.bool v) ∧ Below w.heap.size w w' := h ▸ inBox_impl a b c d x y w
set_option maxRecDepth 20000 in
set_option maxHeartbeats 1600000 in
theorem in_spec (A : Option Addr) (cap : Nat) (l : List (Int × Int)) (a b c d : Int) (w : World) (hs : Spots w w.heap.size A l.length l) (hm : l.length ≤ maxLen) :
    Calls Try.prog 30 #[.slice A l.length cap, .agg #[.int .i64 a, .int .i64 b, .int .i64 c, .int .i64 d]] w (InPost a b c d l w) := by
  obtain ⟨i0, hi, hz0, hz1, hz2⟩ := info_parts info3
  have HI := Lib.hid (And.intro hi (And.intro hz0 (And.intro hz1 hz2)))
  clear hi hz0 hz1 hz2
  have HS := Lib.hid hs
  clear hs
  rcases h1 : spotsB l with _ | _
  · have H1 := Lib.hid h1
    have HO : Hid (inOk a b c d l = false) := by unfold Hid inOk; rw [h1]; rfl
    clear h1
    go_enter Try.func30, Try.ntmps30
    go_wp2_with fail
    refine (l2Spots_v _ _ _ _ l _ (spots_alloc (spots_alloc HS.out _) _) hm H1.out).mono ?_
    rintro e w1 ⟨rfl, hb⟩
    have HR1 := Lib.hid ((in_start a b c d l w).next hb)
    clear hb
    go_wp2_with fail
    go_ret2
    exact in_no HO.out _ _ HR1.out.2.1
  rcases h2 : boxB a b c d with _ | _
  · have H1 := Lib.hid h1
    have H2 := Lib.hid h2
    have HO : Hid (inOk a b c d l = false) := by unfold Hid inOk; rw [h1, h2]; rfl
    clear h1 h2
    go_enter Try.func30, Try.ntmps30
    go_wp2_with fail
    refine (l2Spots_v _ _ _ _ l _ (spots_alloc (spots_alloc HS.out _) _) hm H1.out).mono ?_
    rintro e w1 ⟨rfl, hb⟩
    have HR1 := Lib.hid ((in_start a b c d l w).next hb)
    clear hb
    have c0 := HR1.out.2.2.at_ 0 _ rfl
    have c1 := HR1.out.2.2.at_ 1 _ rfl
    have c2 := HR1.out.2.2.at_ 2 _ rfl
    have c3 := HR1.out.2.2.at_ 3 _ rfl
    go_wp2_with fail
    refine (l2Box_w a b c d _ H2.out _).mono ?_
    rintro e w2 ⟨rfl, hb⟩
    have HR2 := Lib.hid (HR1.out.next hb)
    clear hb c0 c1 c2 c3
    go_wp2_with fail
    go_ret2
    exact in_no HO.out _ _ HR2.out.2.1
  have H1 := Lib.hid h1
  have H2 := Lib.hid h2
  have HO : Hid (inOk a b c d l = true) := by unfold Hid inOk; rw [h1, h2]; rfl
  have h12 : l.length ≤ 12 := (spotsB_all h1).1
  clear h1 h2
  go_enter Try.func30, Try.ntmps30
  go_wp2_with fail
  refine (l2Spots_v _ _ _ _ l _ (spots_alloc (spots_alloc HS.out _) _) hm H1.out).mono ?_
  rintro e w1 ⟨rfl, hb⟩
  have HR1 := Lib.hid ((in_start a b c d l w).next hb)
  clear hb
  have c0 := HR1.out.2.2.at_ 0 _ rfl
  have c1 := HR1.out.2.2.at_ 1 _ rfl
  have c2 := HR1.out.2.2.at_ 2 _ rfl
  have c3 := HR1.out.2.2.at_ 3 _ rfl
  go_wp2_with fail
  refine (l2Box_w a b c d _ H2.out _).mono ?_
  rintro e w2 ⟨rfl, hb⟩
  have HR2 := Lib.hid (HR1.out.next hb)
  clear hb c0 c1 c2 c3
  clear HR1
  unfold maxLen at hm
  go_wp2_with fail
  go_loopw [6, 7] (fun s i wr => ∃ (k : Nat) (v : Value), k ≤ l.length ∧ i = .int .i64 k ∧ s = v ∧ Hid (InRel a b c d l w k v wr)) (fun _ i _ => l.length - (intOf i).toNat)
  case atStart => exact ⟨0, _, Nat.zero_le _, rfl, rfl, HR2⟩
  case round =>
    obtain ⟨k, v, hk, rfl, rfl, hR⟩ := hrel
    by_cases hlt : k < l.length
    · obtain ⟨b0, o0, x, y, rfl, hb0, hl, e0, e1⟩ := (HS.out.on hR.out.2.1 (Nat.le_refl _)).2 k hlt
      have HL := Lib.hid hl
      have hlen := inK_len a b c d l k
      clear hl
      have c0 := hR.out.2.2.at_ 0 _ rfl
      have c1 := hR.out.2.2.at_ 1 _ rfl
      have c2 := hR.out.2.2.at_ 2 _ rfl
      have c3 := hR.out.2.2.at_ 3 _ rfl
      obtain ⟨W3, rfl⟩ : ∃ W3 : World, W3 = wr := ⟨_, rfl⟩
      go_wp2_with fail
      rcases hv : inBoxB a b c d x y with _ | _
      · have HV := Lib.hid hv
        clear hv
        have HK : Hid ((∀ W : World, Below W3.heap.size W3 W → W.cell? ⟨b0, o0 + k * 2, none⟩ = some (.int .i64 x) ∧ W.cell? ⟨b0, o0 + k * 2 + 1, none⟩ = some (.int .i64 y) ∧ W.cell? ⟨w.heap.size, 0, none⟩ = some (.int .i64 a) ∧ W.cell? ⟨w.heap.size, 1, none⟩ = some (.int .i64 b) ∧ W.cell? ⟨w.heap.size, 2, none⟩ = some (.int .i64 c) ∧ W.cell? ⟨w.heap.size, 3, none⟩ = some (.int .i64 d) ∧ Hid (Below W3.heap.size W3 W)) ∧ (∀ W : World, (W.cell? ⟨b0, o0 + k * 2, none⟩ = some (.int .i64 x) ∧ W.cell? ⟨b0, o0 + k * 2 + 1, none⟩ = some (.int .i64 y) ∧ W.cell? ⟨w.heap.size, 0, none⟩ = some (.int .i64 a) ∧ W.cell? ⟨w.heap.size, 1, none⟩ = some (.int .i64 b) ∧ W.cell? ⟨w.heap.size, 2, none⟩ = some (.int .i64 c) ∧ W.cell? ⟨w.heap.size, 3, none⟩ = some (.int .i64 d) ∧ Hid (Below W3.heap.size W3 W)) → Below W3.heap.size W3 W)) := Lib.hid ⟨fun W h => ⟨cell_next h (by assumption), cell_next h (by assumption), cell_next h (by assumption), cell_next h (by assumption), cell_next h (by assumption), cell_next h (by assumption), Lib.hid h⟩, fun W h => h.2.2.2.2.2.2.out⟩
        go_region_held3 (fun W => W.cell? ⟨b0, o0 + k * 2, none⟩ = some (.int .i64 x) ∧ W.cell? ⟨b0, o0 + k * 2 + 1, none⟩ = some (.int .i64 y) ∧ W.cell? ⟨w.heap.size, 0, none⟩ = some (.int .i64 a) ∧ W.cell? ⟨w.heap.size, 1, none⟩ = some (.int .i64 b) ∧ W.cell? ⟨w.heap.size, 2, none⟩ = some (.int .i64 c) ∧ W.cell? ⟨w.heap.size, 3, none⟩ = some (.int .i64 d) ∧ Hid (Below W3.heap.size W3 W)) (first | with_reducible assumption | with_reducible exact HK.out.1 _ (Below.refl _ _).drew | with_reducible exact HK.out.1 _ (bthen (HK.out.2 _ (by assumption)) hb (HK.out.2 _ (by assumption)).size) | with_reducible exact HK.out.1 _ ((HK.out.2 _ (by assumption)).alloc (HK.out.2 _ (by assumption)).size _) | with_reducible exact HK.out.1 _ (HBw.out.alloc HBw.out.size _) | with_reducible exact HK.out.1 _ ((Below.refl _ _).alloc (Nat.le_refl _) _) | with_reducible exact HK.out.1 _ ((HK.out.2 _ (by assumption)).alloc (HK.out.2 _ (by assumption)).size _).drew | with_reducible exact HK.out.1 _ (HBw.out.alloc HBw.out.size _).drew | with_reducible exact HK.out.1 _ ((Below.refl _ _).alloc (Nat.le_refl _) _).drew) ((first | (go_at_call 68; refine (inBox_spec_v _ _ _ _ _ _ _ HV.out _).mono ?_; rintro e w4 ⟨rfl, hb⟩; have HBw := Lib.hid (bthen (HK.out.2 _ (by assumption)) hb (HK.out.2 _ (by assumption)).size); dsimp only)))
        have HR1 := Lib.hid ((hR.out.next (HK.out.2 w4 (by assumption))).skip HL.out HV.out)
        clear HK c0 c1 c2 c3 e0 e1
        go_wp2_with fail
        go_roundw
        case rel => exact ⟨k + 1, _, by omega, by go_num, rfl, HR1⟩
        case measure => simp [intOf]; omega
      · have HV := Lib.hid hv
        clear hv
        have HK : Hid ((∀ W : World, Below W3.heap.size W3 W → W.cell? ⟨b0, o0 + k * 2, none⟩ = some (.int .i64 x) ∧ W.cell? ⟨b0, o0 + k * 2 + 1, none⟩ = some (.int .i64 y) ∧ W.cell? ⟨w.heap.size, 0, none⟩ = some (.int .i64 a) ∧ W.cell? ⟨w.heap.size, 1, none⟩ = some (.int .i64 b) ∧ W.cell? ⟨w.heap.size, 2, none⟩ = some (.int .i64 c) ∧ W.cell? ⟨w.heap.size, 3, none⟩ = some (.int .i64 d) ∧ Hid (Below W3.heap.size W3 W)) ∧ (∀ W : World, (W.cell? ⟨b0, o0 + k * 2, none⟩ = some (.int .i64 x) ∧ W.cell? ⟨b0, o0 + k * 2 + 1, none⟩ = some (.int .i64 y) ∧ W.cell? ⟨w.heap.size, 0, none⟩ = some (.int .i64 a) ∧ W.cell? ⟨w.heap.size, 1, none⟩ = some (.int .i64 b) ∧ W.cell? ⟨w.heap.size, 2, none⟩ = some (.int .i64 c) ∧ W.cell? ⟨w.heap.size, 3, none⟩ = some (.int .i64 d) ∧ Hid (Below W3.heap.size W3 W)) → Below W3.heap.size W3 W)) := Lib.hid ⟨fun W h => ⟨cell_next h (by assumption), cell_next h (by assumption), cell_next h (by assumption), cell_next h (by assumption), cell_next h (by assumption), cell_next h (by assumption), Lib.hid h⟩, fun W h => h.2.2.2.2.2.2.out⟩
        go_region_held3 (fun W => W.cell? ⟨b0, o0 + k * 2, none⟩ = some (.int .i64 x) ∧ W.cell? ⟨b0, o0 + k * 2 + 1, none⟩ = some (.int .i64 y) ∧ W.cell? ⟨w.heap.size, 0, none⟩ = some (.int .i64 a) ∧ W.cell? ⟨w.heap.size, 1, none⟩ = some (.int .i64 b) ∧ W.cell? ⟨w.heap.size, 2, none⟩ = some (.int .i64 c) ∧ W.cell? ⟨w.heap.size, 3, none⟩ = some (.int .i64 d) ∧ Hid (Below W3.heap.size W3 W)) (first | with_reducible assumption | with_reducible exact HK.out.1 _ (Below.refl _ _).drew | with_reducible exact HK.out.1 _ (bthen (HK.out.2 _ (by assumption)) hb (HK.out.2 _ (by assumption)).size) | with_reducible exact HK.out.1 _ ((HK.out.2 _ (by assumption)).alloc (HK.out.2 _ (by assumption)).size _) | with_reducible exact HK.out.1 _ (HBw.out.alloc HBw.out.size _) | with_reducible exact HK.out.1 _ ((Below.refl _ _).alloc (Nat.le_refl _) _) | with_reducible exact HK.out.1 _ ((HK.out.2 _ (by assumption)).alloc (HK.out.2 _ (by assumption)).size _).drew | with_reducible exact HK.out.1 _ (HBw.out.alloc HBw.out.size _).drew | with_reducible exact HK.out.1 _ ((Below.refl _ _).alloc (Nat.le_refl _) _).drew) ((first | (go_at_call 68; refine (inBox_spec_v _ _ _ _ _ _ _ HV.out _).mono ?_; rintro e w4 ⟨rfl, hb⟩; have HBw := Lib.hid (bthen (HK.out.2 _ (by assumption)) hb (HK.out.2 _ (by assumption)).size); dsimp only)))
        have HR1 := Lib.hid (hR.out.next (HK.out.2 w4 (by assumption)))
        clear HK c0 c1 c2 c3 e0 e1
        go_wp2_with (at_builtin; refine wpList_append_own _ rfl _ _ 38 rfl (w.heap.size + 1) 3 i0 (.int .i64 0) 1 8 Try.underlying38 HI.out.1 HI.out.2.1 HI.out.2.2.1 HI.out.2.2.2 rfl (by decide) _ _ _ rfl (HR1.out.1.alloc _) ⟨w4.heap.size, 0, none⟩ 1 1 [.int .i64 k] rfl rfl (cell_one_new _ _ _) (by simp [Value.oneCell']) (by unfold maxLen; omega) (by omega) (by have := HR1.out.2.1.size; simp; omega) ?_; intro v' w5 hown' hgrow _; have HN := Lib.hid (HR1.out.step hown' hgrow HL.out HV.out); clear hown' hgrow)
        go_roundw
        case rel => exact ⟨k + 1, _, by omega, by go_num, rfl, HN⟩
        case measure => simp [intOf]; omega
    · obtain rfl : k = l.length := by omega
      have HF := Lib.hid (in_yes HO.out (own_base hR.out.1 (Nat.le_succ _)) hR.out.2.1)
      go_wp2_with fail
      go_ret2
      exact HF.out
end Go.Proofs.Ytjnimedbjmihaaa
