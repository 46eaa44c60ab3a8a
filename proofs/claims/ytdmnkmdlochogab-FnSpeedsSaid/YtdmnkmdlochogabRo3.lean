/-
  Draws of the laws of casts: contracts of spec.DrawCastAt, DrawNearestCast over this translation. Conditions: stated at each theorem.
-/
import Derived.Test.YtdmnkmdlochogabRo
namespace Go.Proofs.Ytdmnkmdlochogab
open Go.RowKit Go.Sort Go.Deep
set_option linter.unusedVariables false

/-- Casts that were drawn. -/
def DrawCs (w w' : World) (gb n cap : Nat) (L : List KC) : Prop :=
  L.length = n ∧ n ≤ 7 ∧ n ≤ cap ∧ Casts w' w'.heap.size (some ⟨gb, 0, none⟩) n L ∧ Below w.heap.size w w'
theorem drawn_casts {w W : World} {base gb cap : Nat} {L : List KV} (h7 : L.length ≤ 7) (hR : RK base L (.slice (some ⟨gb, 0, none⟩) L.length cap) W) (hI : InK W base W.heap.size L) (hB : Below w.heap.size w W) : DrawCs w W gb L.length cap (L.map KV.k) :=
  ⟨by simp, h7, hR.cap, casts_of hR hI, hB⟩
def DrawCIPost (w : World) (e : Ending) (w' : World) : Prop := ∃ (gb n cap : Nat) (L : List KC) (x : Int), e = .returned (.tuple #[.slice (some ⟨gb, 0, none⟩) n cap, .int .i64 x]) ∧ DrawCs w w' gb n cap L
def DrawCNPost (w : World) (e : Ending) (w' : World) : Prop := ∃ (gb n cap : Nat) (L : List KC) (x y t v : Int), e = .returned (.tuple #[.slice (some ⟨gb, 0, none⟩) n cap, .agg #[.int .i64 x, .int .i64 y], .int .i64 t, .int .i64 v]) ∧ DrawCs w w' gb n cap L
set_option maxRecDepth 100000 in
set_option maxHeartbeats 12800000 in
theorem draw_castAt (A : Option Addr) (n c : Nat) (w : World) (h : CodeRow w.heap.size A n w) : Calls Try.prog 66 #[.slice A n c] w (DrawCIPost w) := by
  have HC1 := Lib.hid (cur_new w A n c 100 h)
  have HB1 := Lib.hid ((Below.refl w.heap.size w).alloc (Nat.le_refl _) (.cells #[.slice A n c, .int .i64 0, .int .u64 0] 100))
  clear h
  go_enter Try.func66, Try.ntmps66
  go_wp2_with fail
  refine (casts_any _ _ _ _ _ _ _ HC1.out (by omega)).mono ?_
  rintro e w2 ⟨L, gb, cap, k2, h7, hk2, hgb, rfl, hR, hI, hc, hg⟩
  have HC2 := Lib.hid hc
  have HB2 := Lib.hid (below_of HB1.out hg HB1.out.size (Nat.le_refl _))
  have HR2 := Lib.hid hR
  have HI2 := Lib.hid hI
  clear hc hg hR hI HC1 HB1
  go_wp2_with fail
  refine (time7_any _ _ _ _ _ _ _ HC2.out (by omega)).mono ?_
  rintro e w3 ⟨x, k3, hk3, rfl, hc, hg⟩
  have HB3 := Lib.hid (below_of HB2.out hg HB2.out.size (Nat.le_refl _))
  have HD := Lib.hid (drawn_casts h7 (HR2.out.draw hg (by simp)) (HI2.out.draw hg (by simp)) HB3.out)
  clear hc hg HC2 HB2 HR2 HI2
  go_wp2_with fail
  refine bodyPost_ret (v := .tuple #[.slice (some ⟨gb, 0, none⟩) L.length cap, .int .i64 x]) (by simp [results, Try.results66, go_sem]) rfl ⟨gb, _, cap, _, x, rfl, HD.out⟩
set_option maxRecDepth 100000 in
set_option maxHeartbeats 12800000 in
theorem draw_near (A : Option Addr) (n c : Nat) (w : World) (h : CodeRow w.heap.size A n w) : Calls Try.prog 69 #[.slice A n c] w (DrawCNPost w) := by
  obtain ⟨W1, hW1⟩ : ∃ W, W = (w.alloc (.cells #[.int .i64 0, .int .i64 0] 61)).alloc (.cells #[.slice A n c, .int .i64 0, .int .u64 0] 100) := ⟨_, rfl⟩
  have HS1 : Hid (W1.heap.size = w.heap.size + 2) := by rw [hW1]; exact Lib.hid (by simp)
  have HB1 : Hid (Below w.heap.size w W1) := by rw [hW1]; exact Lib.hid (((Below.refl w.heap.size w).alloc (by simp <;> omega) _).alloc (by simp <;> omega) _)
  have HZ1a : Hid (Has W1 (w.heap.size) [.int .i64 0, .int .i64 0]) := by rw [hW1]; exact Lib.hid (((by simpa using Has.new w #[.int .i64 0, .int .i64 0] 61 : Has (w.alloc (.cells #[.int .i64 0, .int .i64 0] 61)) w.heap.size [.int .i64 0, .int .i64 0]).alloc _))
  have HC1 : Hid (Cur w.heap.size A n c (w.heap.size + 1) 0 W1) := by
    have h1 := cur_new (w.alloc (.cells #[.int .i64 0, .int .i64 0] 61)) A n c 100 (h.below (B' := (w.alloc (.cells #[.int .i64 0, .int .i64 0] 61)).heap.size) ((Below.refl w.heap.size w).alloc (by simp <;> omega) _) (by simp <;> omega))
    rw [← hW1] at h1
    have hsz : (w.alloc (.cells #[.int .i64 0, .int .i64 0] 61)).heap.size = w.heap.size + 1 := by simp
    rw [hsz] at h1
    exact Lib.hid (cur_low' h1 (h.below HB1.out (Nat.le_refl _)) (by omega))
  have HE1 := Lib.hid hW1
  clear h hW1
  go_enter Try.func69, Try.ntmps69
  go_upto_region 2 with fail
  rw [← HE1.out]
  go_wp2_with fail
  refine (casts_any _ _ _ _ _ _ _ HC1.out (by omega)).mono ?_
  rintro e w2 ⟨L, gb, cap, k2, h7, hk2, hgb, rfl, hR, hI, hc, hg⟩
  have HG2 := Lib.hid hg
  have HC2 := Lib.hid hc
  have HB2 := Lib.hid (below_of HB1.out hg HB1.out.size (by omega))
  have HZ2 := Lib.hid (has_grown HZ1a.out hg (fun e => by have := Option.some.inj e; omega))
  have HR2 := Lib.hid hR
  have HI2 := Lib.hid hI
  have hg1 : w.heap.size + 1 < W1.heap.size := by have := HS1.out; omega
  clear hc hg hR hI HC1 HB1 HZ1a HE1 HG2
  go_wp2_with fail
  refine (spot_any _ _ _ _ _ _ _ HC2.out (by omega)).mono ?_
  rintro e w3 ⟨x, y, k3, hk3, hk3', rfl, hc, hg⟩
  have HC3 := Lib.hid hc
  have HB3 := Lib.hid (below_of HB2.out hg HB2.out.size (by omega))
  have HZ3 := Lib.hid (has_grown HZ2.out hg (fun e => by have := Option.some.inj e; omega))
  have HR3 := Lib.hid (HR2.out.draw hg hg1)
  have HI3 := Lib.hid (HI2.out.draw hg hg1)
  clear hc hg HC2 HB2 HZ2 HR2 HI2
  go_wp2_with fail
  refine (time7_any _ _ _ _ _ _ _ HC3.out (by omega)).mono ?_
  rintro e w4 ⟨t, k4, hk4, rfl, hc, hg⟩
  have HC4 := Lib.hid (hc.alloc (.cells ([0, 60, 300, 10000, -1, 10001].map (Value.int .i64)).toArray 3))
  have HH4 := Lib.hid (has_ints w4 [0, 60, 300, 10000, -1, 10001])
  have HB4 := Lib.hid ((below_of HB3.out hg HB3.out.size (by omega)).alloc (Nat.le_trans HB3.out.size hg.size) (.cells ([0, 60, 300, 10000, -1, 10001].map (Value.int .i64)).toArray 3))
  have HZ4 := Lib.hid ((has_grown HZ3.out hg (fun e => by have := Option.some.inj e; omega)).alloc (.cells ([0, 60, 300, 10000, -1, 10001].map (Value.int .i64)).toArray 3))
  have HR4 := Lib.hid ((HR3.out.draw hg hg1).alloc (.cells ([0, 60, 300, 10000, -1, 10001].map (Value.int .i64)).toArray 3))
  have HI4 := Lib.hid ((HI3.out.draw hg hg1).alloc (.cells ([0, 60, 300, 10000, -1, 10001].map (Value.int .i64)).toArray 3))
  have hs4 : w.heap.size + 1 < w4.heap.size := hc.lt
  clear hc hg HC3 HB3 HZ3 HR3 HI3
  go_wp2_with fail
  refine (pick_any _ _ _ _ _ _ 24 _ HC4.out (by omega) (by decide) (by decide)).mono ?_
  rintro e w5 ⟨q, hq, rfl, hc, hg⟩
  have HC5 := Lib.hid hc
  have HB5 := Lib.hid (below_of HB4.out hg HB4.out.size (by omega))
  have HZ5 := Lib.hid (has_grown HZ4.out hg (fun e => by have := Option.some.inj e; omega))
  have HH5 := Lib.hid (has_grown HH4.out hg (fun e => by have := Option.some.inj e; omega))
  have HR5 := Lib.hid (HR4.out.draw hg hg1)
  have HI5 := Lib.hid (HI4.out.draw hg hg1)
  clear hc hg HC4 HB4 HZ4 HH4 HR4 HI4
  obtain ⟨r, hr, hr1, hr2⟩ : ∃ r : Nat, (4 : Int) + (q : Int) / 11 = r ∧ 4 ≤ r ∧ r ≤ 6 := ⟨4 + q / 11, by omega, by omega, by omega⟩
  go_wp2_with fail
  refine (among_pre _ _ _ _ _ _ _ _ r [0, 60, 300, 10000, -1, 10001] _ HC5.out (by omega) (by omega) (by simp; omega) (by decide) HH5.out (by omega)).mono ?_
  rintro e w6 ⟨v, _, rfl, hc, hg⟩
  have HB6 := Lib.hid (below_of HB5.out hg HB5.out.size (by omega))
  have HZ6 := Lib.hid (has_grown HZ5.out hg (fun e => by have := Option.some.inj e; omega))
  have HR6 := Lib.hid (HR5.out.draw hg hg1)
  have HI6 := Lib.hid (HI5.out.draw hg hg1)
  clear hc hg HC5 HB5 HZ5 HH5 HR5 HI5
  have hset := setL_grown [.int .i64 x, .int .i64 y] w6 w.heap.size 0
  have HRt := Lib.hid ((HZ6.out.set 0 (.int .i64 x)).set 1 (.int .i64 y))
  have HD := Lib.hid (drawn_casts h7 (HR6.out.draw hset (by omega)) (HI6.out.draw hset (by omega)) (below_of HB6.out hset HB6.out.size (Nat.le_refl _)))
  clear hset
  have z0 := HZ6.out.at_ 0 _ rfl
  have z1 := HZ6.out.at_ 1 _ rfl
  have f0 := HZ6.out.free 0
  have f1 := HZ6.out.free 1
  have r0 := HRt.out.at_ 0 _ rfl
  have r1 := HRt.out.at_ 1 _ rfl
  go_wp2_with fail
  refine bodyPost_ret (v := .tuple #[.slice (some ⟨gb, 0, none⟩) L.length cap, .agg #[.int .i64 x, .int .i64 y], .int .i64 t, .int .i64 v]) (by simp [results, Try.results69, go_sem, r0, r1]) rfl ⟨_, _, _, _, _, _, _, _, rfl, HD.out⟩
end Go.Proofs.Ytdmnkmdlochogab
