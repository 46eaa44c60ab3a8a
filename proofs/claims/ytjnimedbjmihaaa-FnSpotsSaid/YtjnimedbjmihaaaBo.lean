/-
  Contracts of impl.BoxOf, spec.BoxOf over this translation. Conditions: stated at each theorem.
-/
import Derived.Test.YtjnimedbjmihaaaSh
import Derived.Test.YtjnimedbjmihaaaNear
import Derived.StillTailTactics
namespace Go.Proofs.Ytjnimedbjmihaaa
open Go.RowKit

/-- The least (greatest) coordinate among the first k spots. -/
def ext (f : Int → Int → Int) (g : Int × Int → Int) (l : List (Int × Int)) (k : Nat) : Int := ((l.take k).map g).foldl f (g (l.getD 0 (0, 0)))
theorem ext_step (f : Int → Int → Int) (g : Int × Int → Int) {l : List (Int × Int)} {k : Nat} {p : Int × Int} (h : l[k]? = some p) : ext f g l (k + 1) = f (ext f g l k) (g p) := by
  obtain ⟨hk, rfl⟩ := List.getElem?_eq_some_iff.1 h
  unfold ext
  rw [List.take_succ_eq_append_getElem hk, List.map_append, List.foldl_append]
  rfl
theorem ext_one (f : Int → Int → Int) (hf : ∀ x, f x x = x) (g : Int × Int → Int) {l : List (Int × Int)} {p : Int × Int} (h : l[0]? = some p) : ext f g l 1 = g p := by
  rw [ext_step f g h]
  have e : ext f g l 0 = g p := by
    unfold ext
    rw [List.getD_eq_getElem?_getD, h]; rfl
  rw [e, hf]
def boK (l : List (Int × Int)) : Bool := spotsB l && decide (0 < l.length)
def boV (l : List (Int × Int)) : Value := boxRes (boK l) (ext min (·.1) l l.length) (ext min (·.2) l l.length) (ext max (·.1) l l.length) (ext max (·.2) l l.length)
def BoPost (l : List (Int × Int)) (w : World) (e : Ending) (w' : World) : Prop := e = .returned (boV l) ∧ Below w.heap.size w w'
theorem bo_no {l : List (Int × Int)} (h : boK l = false) : Value.tuple #[.agg #[.int .i64 0, .int .i64 0, .int .i64 0, .int .i64 0], .bool false] = boV l := boxRes_no h _ _ _ _
theorem bo_yes {l : List (Int × Int)} (h : boK l = true) : Value.tuple #[.agg #[.int .i64 (ext min (·.1) l l.length), .int .i64 (ext min (·.2) l l.length), .int .i64 (ext max (·.1) l l.length), .int .i64 (ext max (·.2) l l.length)], .bool true] = boV l := boxRes_yes h _ _ _ _
theorem least_still (a b : Int) (w : World) : Calls Try.prog 64 #[.int .i64 a, .int .i64 b] w fun e w' => e = .returned (.int .i64 (min a b)) ∧ w' = w :=
  (least_any a b w).mono fun _ _ ⟨h1, h2⟩ => ⟨h1, h2.symm⟩
theorem most_still (a b : Int) (w : World) : Calls Try.prog 65 #[.int .i64 a, .int .i64 b] w fun e w' => e = .returned (.int .i64 (max a b)) ∧ w' = w :=
  (most_any a b w).mono fun _ _ ⟨h1, h2⟩ => ⟨h1, h2.symm⟩
set_option maxRecDepth 20000 in
set_option maxHeartbeats 1600000 in
theorem bo_spec (A : Option Addr) (c : Nat) (l : List (Int × Int)) (w : World) (hs : Spots w w.heap.size A l.length l) (hm : l.length ≤ maxLen) :
    Calls Try.prog 28 #[.slice A l.length c] w (BoPost l w) := by
  have HS := Lib.hid hs
  clear hs
  rcases h1 : spotsB l with _ | _
  · have H1 := Lib.hid h1
    have HR := Lib.hid (bo_no (l := l) (by unfold boK; rw [h1]; rfl))
    clear h1
    go_enter Try.func28, Try.ntmps28
    go_wp2_with fail
    refine (l2Spots_v _ _ _ _ l _ (spots_alloc HS.out _) hm H1.out).mono ?_
    rintro e w1 ⟨rfl, hb⟩
    have HX := Lib.hid (box1 hb)
    clear hb
    have z0 := HX.out.2.at_ 0 _ rfl
    have z1 := HX.out.2.at_ 1 _ rfl
    have z2 := HX.out.2.at_ 2 _ rfl
    have z3 := HX.out.2.at_ 3 _ rfl
    have f0 := HX.out.2.free 0
    have f1 := HX.out.2.free 1
    have f2 := HX.out.2.free 2
    have f3 := HX.out.2.free 3
    go_wp2_with fail
    refine bodyPost_ret (v := .tuple #[.agg #[.int .i64 0, .int .i64 0, .int .i64 0, .int .i64 0], .bool false]) (by simp [results, Try.results28, go_sem, z0, z1, z2, z3]) rfl ⟨congrArg Ending.returned HR.out, ?_⟩
    repeat (first | exact HX.out.1 | refine Below.setCell ?_ (by simp; try omega) _)
  by_cases h3 : 0 < l.length
  · have H1 := Lib.hid h1
    have HKo := Lib.hid (show boK l = true by unfold boK; rw [h1, decide_eq_true h3]; rfl)
    have h0 : ((l.length : Int) == 0) = false := beq_eq_false_iff_ne.2 (by omega)
    clear h1
    go_enter Try.func28, Try.ntmps28
    go_wp2_with fail
    refine (l2Spots_v _ _ _ _ l _ (spots_alloc HS.out _) hm H1.out).mono ?_
    rintro e w1 ⟨rfl, hb⟩
    have HX := Lib.hid (box1 hb)
    have HS1 := Lib.hid (spots_more (spots_alloc HS.out _) hb)
    clear hb
    unfold maxLen at hm
    obtain ⟨b0, o0, x0, y0, rfl, hb0, hl0, c0, c1⟩ := HS1.out.2 0 h3
    rw [Nat.zero_mul, Nat.add_zero] at c0 c1
    have HL0 := Lib.hid hl0
    clear hl0
    go_wp2_with fail
    have d0 := c0
    have d1 := c1
    have HK : Hid ((∀ W : World, Below w1.heap.size w1 W → W.cell? ⟨b0, o0, none⟩ = some (.int .i64 x0) ∧ W.cell? ⟨b0, o0 + 1, none⟩ = some (.int .i64 y0) ∧ Hid (Below w1.heap.size w1 W)) ∧ (∀ W : World, (W.cell? ⟨b0, o0, none⟩ = some (.int .i64 x0) ∧ W.cell? ⟨b0, o0 + 1, none⟩ = some (.int .i64 y0) ∧ Hid (Below w1.heap.size w1 W)) → Below w1.heap.size w1 W)) := Lib.hid ⟨fun W h => ⟨cell_next h (by assumption), cell_next h (by assumption), Lib.hid h⟩, fun W h => h.2.2.out⟩
    go_region_held3 (fun W => W.cell? ⟨b0, o0, none⟩ = some (.int .i64 x0) ∧ W.cell? ⟨b0, o0 + 1, none⟩ = some (.int .i64 y0) ∧ Hid (Below w1.heap.size w1 W)) (first | with_reducible assumption | with_reducible exact HK.out.1 _ (Below.refl _ _).drew | with_reducible exact HK.out.1 _ (bthen (HK.out.2 _ (by assumption)) hb (HK.out.2 _ (by assumption)).size) | with_reducible exact HK.out.1 _ ((HK.out.2 _ (by assumption)).alloc (HK.out.2 _ (by assumption)).size _) | with_reducible exact HK.out.1 _ (HBw.out.alloc HBw.out.size _) | with_reducible exact HK.out.1 _ ((Below.refl _ _).alloc (Nat.le_refl _) _) | with_reducible exact HK.out.1 _ ((HK.out.2 _ (by assumption)).alloc (HK.out.2 _ (by assumption)).size _).drew | with_reducible exact HK.out.1 _ (HBw.out.alloc HBw.out.size _).drew | with_reducible exact HK.out.1 _ ((Below.refl _ _).alloc (Nat.le_refl _) _).drew) (fail)
    have HG : Hid (Has ((w1.alloc (.cells #[.int .i64 x0, .int .i64 y0, .int .i64 x0, .int .i64 y0] 35)).drew) w1.heap.size [.int .i64 (ext min (·.1) l 1), .int .i64 (ext min (·.2) l 1), .int .i64 (ext max (·.1) l 1), .int .i64 (ext max (·.2) l 1)] ∧ Has ((w1.alloc (.cells #[.int .i64 x0, .int .i64 y0, .int .i64 x0, .int .i64 y0] 35)).drew) w.heap.size [.int .i64 0, .int .i64 0, .int .i64 0, .int .i64 0] ∧ Below w1.heap.size w1 ((w1.alloc (.cells #[.int .i64 x0, .int .i64 y0, .int .i64 x0, .int .i64 y0] 35)).drew)) := by
      rw [ext_one min (by omega) (·.1) HL0.out, ext_one min (by omega) (·.2) HL0.out, ext_one max (by omega) (·.1) HL0.out, ext_one max (by omega) (·.2) HL0.out]
      exact ⟨(Has.new _ _ _).drew, (HX.out.2.alloc _).drew, ((Below.refl _ _).alloc (Nat.le_refl _) _).drew⟩
    clear d0 d1 c0 c1
    go_wp2_with fail
    go_loopw [5] (fun i wr => ∃ k : Nat, k ≤ l.length ∧ i = .int .i64 k ∧ Hid (Has wr w1.heap.size [.int .i64 (ext min (·.1) l k), .int .i64 (ext min (·.2) l k), .int .i64 (ext max (·.1) l k), .int .i64 (ext max (·.2) l k)] ∧ Has wr w.heap.size [.int .i64 0, .int .i64 0, .int .i64 0, .int .i64 0] ∧ Below w1.heap.size w1 wr)) (fun i _ => l.length - (intOf i).toNat)
    case atStart => exact ⟨1, h3, rfl, HG⟩
    case round =>
      obtain ⟨k, hk, rfl, hG⟩ := hrel
      clear HG
      by_cases hlt : k < l.length
      · obtain ⟨b1, o1, x, y, hAe, hb1, hl1, c0, c1⟩ := (spots_more HS1.out hG.out.2.2).2 k hlt
        obtain ⟨rfl, rfl⟩ : b0 = b1 ∧ o0 = o1 := by injection hAe with h; injection h with h h'; exact ⟨h, h'⟩
        have HL := Lib.hid hl1
        clear hl1 hAe
        go_wp2_with fail
        obtain ⟨W5, hW5⟩ : ∃ W5, W5 = (wr.alloc (.cells #[.int .i64 x, .int .i64 y] 26)) := ⟨_, rfl⟩
        have H5 : Hid (Has W5 w1.heap.size [.int .i64 (ext min (·.1) l k), .int .i64 (ext min (·.2) l k), .int .i64 (ext max (·.1) l k), .int .i64 (ext max (·.2) l k)] ∧ Has W5 w.heap.size [.int .i64 0, .int .i64 0, .int .i64 0, .int .i64 0] ∧ Below w1.heap.size w1 W5 ∧ Has W5 wr.heap.size [.int .i64 x, .int .i64 y]) := by
          rw [hW5]
          exact ⟨hG.out.1.alloc _, hG.out.2.1.alloc _, hG.out.2.2.alloc hG.out.2.2.size _, Has.new _ _ _⟩
        rw [← hW5]
        clear hW5 c0 c1
        have g0 := H5.out.1.at_ 0 _ rfl
        have g1 := H5.out.1.at_ 1 _ rfl
        have g2 := H5.out.1.at_ 2 _ rfl
        have g3 := H5.out.1.at_ 3 _ rfl
        have f0 := H5.out.1.free 0
        have f1 := H5.out.1.free 1
        have f2 := H5.out.1.free 2
        have f3 := H5.out.1.free 3
        have e0 := H5.out.2.2.2.at_ 0 _ rfl
        have e1 := H5.out.2.2.2.at_ 1 _ rfl
        refine wp_region_still_tail 21 (by kernel_rfl) (by kernel_rfl) ?_
        simp only [List.take_succ_cons, List.take_zero, List.drop_succ_cons, List.drop_zero]
        still_step
        still_step
        still_step
        still_step
        still_call (least_still _ _ _)
        still_step
        still_step
        still_step
        still_step
        still_call (least_still _ _ _)
        still_step
        still_step
        still_step
        still_step
        still_call (most_still _ _ _)
        still_step
        still_step
        still_step
        still_step
        still_call (most_still _ _ _)
        still_step
        refine wpStill_nil ?_
        change wpList _ _ _ _ _ W5.drew
        have H6 : Hid (Has ((((W5.drew.setCell ⟨w1.heap.size, 0, none⟩ (.int .i64 (min (ext min (·.1) l k) x))).setCell ⟨w1.heap.size, 1, none⟩ (.int .i64 (min (ext min (·.2) l k) y))).setCell ⟨w1.heap.size, 2, none⟩ (.int .i64 (max (ext max (·.1) l k) x))).setCell ⟨w1.heap.size, 3, none⟩ (.int .i64 (max (ext max (·.2) l k) y))) w1.heap.size [.int .i64 (ext min (·.1) l (k + 1)), .int .i64 (ext min (·.2) l (k + 1)), .int .i64 (ext max (·.1) l (k + 1)), .int .i64 (ext max (·.2) l (k + 1))] ∧ Has ((((W5.drew.setCell ⟨w1.heap.size, 0, none⟩ (.int .i64 (min (ext min (·.1) l k) x))).setCell ⟨w1.heap.size, 1, none⟩ (.int .i64 (min (ext min (·.2) l k) y))).setCell ⟨w1.heap.size, 2, none⟩ (.int .i64 (max (ext max (·.1) l k) x))).setCell ⟨w1.heap.size, 3, none⟩ (.int .i64 (max (ext max (·.2) l k) y))) w.heap.size [.int .i64 0, .int .i64 0, .int .i64 0, .int .i64 0] ∧ Below w1.heap.size w1 ((((W5.drew.setCell ⟨w1.heap.size, 0, none⟩ (.int .i64 (min (ext min (·.1) l k) x))).setCell ⟨w1.heap.size, 1, none⟩ (.int .i64 (min (ext min (·.2) l k) y))).setCell ⟨w1.heap.size, 2, none⟩ (.int .i64 (max (ext max (·.1) l k) x))).setCell ⟨w1.heap.size, 3, none⟩ (.int .i64 (max (ext max (·.2) l k) y)))) := by
          have hne : w1.heap.size ≠ w.heap.size := by have := HX.out.2.1; omega
          rw [ext_step min (·.1) HL.out, ext_step min (·.2) HL.out, ext_step max (·.1) HL.out, ext_step max (·.2) HL.out]
          refine ⟨((((H5.out.1.drew.set 0 _).set 1 _).set 2 _).set 3 _), ((((H5.out.2.1.drew.far hne _).far hne _).far hne _).far hne _), ?_⟩
          repeat (first | exact H5.out.2.2.1.drew | refine Below.setCell ?_ (by exact Nat.le_refl _) _)
        go_wp2_with fail
        go_roundw
        case rel => exact ⟨k + 1, by omega, by go_num, H6⟩
        case measure => simp [intOf]; omega
      · obtain rfl : k = l.length := by omega
        have HR := Lib.hid (bo_yes HKo.out)
        have z0 := hG.out.2.1.at_ 0 _ rfl
        have z1 := hG.out.2.1.at_ 1 _ rfl
        have z2 := hG.out.2.1.at_ 2 _ rfl
        have z3 := hG.out.2.1.at_ 3 _ rfl
        have f0 := hG.out.2.1.free 0
        have f1 := hG.out.2.1.free 1
        have f2 := hG.out.2.1.free 2
        have f3 := hG.out.2.1.free 3
        have g0 := hG.out.1.at_ 0 _ rfl
        have g1 := hG.out.1.at_ 1 _ rfl
        have g2 := hG.out.1.at_ 2 _ rfl
        have g3 := hG.out.1.at_ 3 _ rfl
        have HF := Lib.hid (bthen HX.out.1 hG.out.2.2 HX.out.1.size)
        go_wp2_with fail
        refine bodyPost_ret (v := .tuple #[.agg #[.int .i64 (ext min (·.1) l l.length), .int .i64 (ext min (·.2) l l.length), .int .i64 (ext max (·.1) l l.length), .int .i64 (ext max (·.2) l l.length)], .bool true]) (by simp [results, Try.results28, go_sem, z0, z1, z2, z3]) rfl ⟨congrArg Ending.returned HR.out, ?_⟩
        repeat (first | exact HF.out | refine Below.setCell ?_ (by simp; try omega) _)
  · have H1 := Lib.hid h1
    have HR := Lib.hid (bo_no (l := l) (by unfold boK; rw [decide_eq_false h3, Bool.and_false]))
    have hz : l.length ≤ 0 := by omega
    have h0 : ((l.length : Int) == 0) = true := by simpa using hz
    clear h1 h3 hz
    go_enter Try.func28, Try.ntmps28
    go_wp2_with fail
    refine (l2Spots_v _ _ _ _ l _ (spots_alloc HS.out _) hm H1.out).mono ?_
    rintro e w1 ⟨rfl, hb⟩
    have HX := Lib.hid (box1 hb)
    clear hb
    have z0 := HX.out.2.at_ 0 _ rfl
    have z1 := HX.out.2.at_ 1 _ rfl
    have z2 := HX.out.2.at_ 2 _ rfl
    have z3 := HX.out.2.at_ 3 _ rfl
    have f0 := HX.out.2.free 0
    have f1 := HX.out.2.free 1
    have f2 := HX.out.2.free 2
    have f3 := HX.out.2.free 3
    go_wp2_with fail
    refine bodyPost_ret (v := .tuple #[.agg #[.int .i64 0, .int .i64 0, .int .i64 0, .int .i64 0], .bool false]) (by simp [results, Try.results28, go_sem, z0, z1, z2, z3]) rfl ⟨congrArg Ending.returned HR.out, ?_⟩
    repeat (first | exact HX.out.1 | refine Below.setCell ?_ (by simp; try omega) _)
end Go.Proofs.Ytjnimedbjmihaaa
