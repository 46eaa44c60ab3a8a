/-
  A craft that is drawn: contracts of spec.l1Cur.of, spec.l1Cur.craft over this translation. Conditions: stated at each theorem.
-/
import Derived.Test.YtfffahkommbheaaDoorRc
import Derived.Test.YtfffahkommbheaaDoorVl
import Derived.Deep.DeepCutAuto
namespace Go.Proofs.YtfffahkommbheaaDoor
open Go.RowKit Go.Sort

theorem layC {w : World} {g : Nat} {cs : List Value} (h : Has w g cs) (hl : cs.length = 7) (v : CC) : Has (setL w g 0 [.int .i64 v.id, .string v.nm, .int .i64 v.dr, .int .i64 v.ah, .int .i64 v.be, .int .i64 v.sp, .int .i64 v.fu]) g [.int .i64 v.id, .string v.nm, .int .i64 v.dr, .int .i64 v.ah, .int .i64 v.be, .int .i64 v.sp, .int .i64 v.fu] := by
  match cs, hl with
  | [_, _, _, _, _, _, _], _ => exact ((((((h.set 0 _).set 1 _).set 2 _).set 3 _).set 4 _).set 5 _).set 6 _
theorem setL_grown (vs : List Value) : ∀ (w : World) (g o : Nat), w.grownBy (setL w g o vs) (some g) := by
  induction vs with
  | nil => intro w g o; exact ⟨rfl, rfl, rfl, Nat.le_refl _, fun _ _ _ => rfl⟩
  | cons v vs ih => intro w g o; exact grown_trans (set_grown w g o v) (ih _ g (o + 1))
/-- What grew from w by the reader's block g and by a block that w did not have yet. -/
theorem grown_new {w w1 w2 : World} {g b : Nat} (h : w.grownBy w1 (some g)) (k : w1.grownBy w2 (some b)) (hb : w.heap.size ≤ b) : w.grownBy w2 (some g) :=
  ⟨k.os.trans h.os, k.tape.trans h.tape, k.output.trans h.output, Nat.le_trans h.size k.size, fun i hi hne => (k.block i (Nat.lt_of_lt_of_le hi h.size) (fun e => by have := Option.some.inj e; omega)).trans (h.block i hi hne)⟩
def OfPost (M B : Nat) (A : Option Addr) (n c g k : Nat) (w : World) (e : Ending) (w' : World) : Prop :=
  ∃ s : ByteArray, s.size ≤ M ∧ e = .returned (.string s) ∧ Cur B A n c g (k + 1) w' ∧ w.grownBy w' (some g)
theorem of_any (M B : Nat) (A : Option Addr) (n c g k b cap : Nat) (xs : List ByteArray) (w : World) (h : Cur B A n c g k w) (hk : k < 1000000) (h1 : 1 < xs.length) (h2 : xs.length ≤ 200)
    (hc : ∀ j x, xs[j]? = some x → w.cell? ⟨b, j, none⟩ = some (.string x)) (hb : b < w.heap.size) (hbg : b ≠ g) (hp : ∀ x ∈ xs, x.size ≤ M) :
    Calls Tryd.prog 37 #[.pointer (some ⟨g, 0, none⟩), .slice (some ⟨b, 0, none⟩) xs.length cap] w (OfPost M B A n c g k w) := by
  have HN := Lib.hid (pick_any B A n c g k xs.length w h hk h1 h2)
  have HP := Lib.hid hp
  have HC0 := Lib.hid hc
  clear h hp hc
  go_enter Tryd.func37, Tryd.ntmps37
  go_wp2_with (go_at_call 22; refine HN.out.mono ?_; rintro e w' ⟨v, hv, rfl, hc, hg⟩; have HC := Lib.hid hc; have HG := Lib.hid hg; have hcell := (World.cell?_of_block (a := ⟨b, v, none⟩) (hg.block b hb (fun e => hbg (Option.some.inj e)))).trans (HC0.out v xs[v] (List.getElem?_eq_getElem hv)); clear hc hg)
  go_ret
  exact ⟨xs[v], HP.out _ (List.getElem_mem hv), rfl, HC.out, HG.out⟩
theorem of_at (M B : Nat) (A : Option Addr) (n c g k b cap : Nat) (xs : List ByteArray) (w : World) (h : Cur B A n c g k w) (hb : b = w.heap.size) (hk : k < 1000000) (h1 : 1 < xs.length) (h2 : xs.length ≤ 200) (hp : ∀ x ∈ xs, x.size ≤ M) :
    Calls Tryd.prog 37 #[.pointer (some ⟨g, 0, none⟩), .slice (some ⟨b, 0, none⟩) xs.length cap] (w.alloc (.cells (xs.map Value.string).toArray 9)) (OfPost M B A n c g k w) := by
  subst hb
  have hlt := h.lt
  refine (of_any M B A n c g k w.heap.size cap xs _ (h.alloc _) hk h1 h2 (fun j x hx => by rw [World.cell?_alloc_new]; simp [hx]) (by simp) (by omega) hp).mono ?_
  rintro e w' ⟨s, hs, he, hc, hg⟩
  exact ⟨s, hs, he, hc, grown_trans (World.grownBy_alloc _ _ _) hg⟩
def AnyI (_ : Int) : Prop := True
/-- What craft hands back. -/
def CraftPost (B : Nat) (A : Option Addr) (n c g k : Nat) (w : World) (e : Ending) (w' : World) : Prop :=
  ∃ (v : CC) (k' : Nat), k ≤ k' ∧ k' ≤ k + 8 ∧ v.nm.size ≤ 11 ∧ e = .returned (.agg #[.int .i64 v.id, .string v.nm, .int .i64 v.dr, .int .i64 v.ah, .int .i64 v.be, .int .i64 v.sp, .int .i64 v.fu]) ∧ Cur B A n c g k' w' ∧ w.grownBy w' (some g)
set_option maxRecDepth 20000 in
set_option maxHeartbeats 6400000 in
theorem craft_any (B : Nat) (A : Option Addr) (n c g k : Nat) (id : Int) (w : World) (h : Cur B A n c g k w) (hk : k < 900000) :
    Calls Tryd.prog 20 #[.pointer (some ⟨g, 0, none⟩), .int .i64 id] w (CraftPost B A n c g k w) := by
  have hgl := h.lt
  have HG0 : Hid (w.grownBy (w.alloc (.cells #[.int .i64 0, .string ⟨#[]⟩, .int .i64 0, .int .i64 0, .int .i64 0, .int .i64 0, .int .i64 0] 25)) (some g)) := Lib.hid (World.grownBy_alloc _ _ _)
  have HZ0 : Hid (Has (w.alloc (.cells #[.int .i64 0, .string ⟨#[]⟩, .int .i64 0, .int .i64 0, .int .i64 0, .int .i64 0, .int .i64 0] 25)) w.heap.size [.int .i64 0, .string ⟨#[]⟩, .int .i64 0, .int .i64 0, .int .i64 0, .int .i64 0, .int .i64 0]) := Lib.hid (by simpa using Has.new w #[.int .i64 0, .string ⟨#[]⟩, .int .i64 0, .int .i64 0, .int .i64 0, .int .i64 0, .int .i64 0] 25)
  have HC0 := Lib.hid (h.alloc (.cells #[.int .i64 0, .string ⟨#[]⟩, .int .i64 0, .int .i64 0, .int .i64 0, .int .i64 0, .int .i64 0] 25))
  clear h
  have hne : some w.heap.size ≠ some g := fun e => by have := Option.some.inj e; omega
  have HNE := Lib.hid hne
  clear hne
  go_enter Tryd.func20, Tryd.ntmps20
  go_wp2_with fail
  refine (of_at 11 _ _ _ _ _ _ _ 4 [⟨#[116, 101, 114, 110]⟩, ⟨#[103, 117, 108, 108]⟩, ⟨#[104, 101, 114, 111, 110]⟩, ⟨#[111, 116, 116, 101, 114]⟩] _ HC0.out (by simp) (by omega) (by decide) (by decide) (by intro x hx; simp only [List.mem_cons, List.not_mem_nil, or_false] at hx; rcases hx with rfl | rfl | rfl | rfl <;> decide)).mono ?_
  rintro e w1 ⟨s, hs, rfl, hc, hg⟩
  have HC1 := Lib.hid hc
  have HG1 := Lib.hid (grown_trans HG0.out hg)
  have HZ1 := Lib.hid (has_grown HZ0.out hg HNE.out)
  clear hc hg HC0 HG0 HZ0
  go_wp2_with fail
  refine (among_at AnyI _ _ _ _ _ _ _ 5 [10, 80, 80, 150, 2000] _ HC1.out rfl (by omega) (by decide) (by decide) (fun _ _ => trivial)).mono ?_
  rintro e w2 ⟨dr, _, rfl, hc, hg⟩
  have HC2 := Lib.hid hc
  have HG2 := Lib.hid (grown_trans HG1.out hg)
  have HZ2 := Lib.hid (has_grown HZ1.out hg HNE.out)
  clear hc hg HC1 HG1 HZ1
  go_wp2_with fail
  refine (among_at AnyI _ _ _ _ _ _ _ 5 [-500, -12, 0, 30, 500] _ HC2.out rfl (by omega) (by decide) (by decide) (fun _ _ => trivial)).mono ?_
  rintro e w3 ⟨ah, _, rfl, hc, hg⟩
  have HC3 := Lib.hid hc
  have HG3 := Lib.hid (grown_trans HG2.out hg)
  have HZ3 := Lib.hid (has_grown HZ2.out hg HNE.out)
  clear hc hg HC2 HG2 HZ2
  go_wp2_with fail
  refine (among_at AnyI _ _ _ _ _ _ _ 4 [-200, 0, 4, 200] _ HC3.out rfl (by omega) (by decide) (by decide) (fun _ _ => trivial)).mono ?_
  rintro e w4 ⟨be, _, rfl, hc, hg⟩
  have HC4 := Lib.hid hc
  have HG4 := Lib.hid (grown_trans HG3.out hg)
  have HZ4 := Lib.hid (has_grown HZ3.out hg HNE.out)
  clear hc hg HC3 HG3 HZ3
  go_wp2_with fail
  refine (among_at AnyI _ _ _ _ _ _ _ 5 [1, 25, 40, 40, 60] _ HC4.out rfl (by omega) (by decide) (by decide) (fun _ _ => trivial)).mono ?_
  rintro e w5 ⟨sp, _, rfl, hc, hg⟩
  have HC5 := Lib.hid hc
  have HG5 := Lib.hid (grown_trans HG4.out hg)
  have HZ5 := Lib.hid (has_grown HZ4.out hg HNE.out)
  clear hc hg HC4 HG4 HZ4
  go_wp2_with fail
  refine (among_at AnyI _ _ _ _ _ _ _ 4 [0, 1, 60, 10000] _ HC5.out rfl (by omega) (by decide) (by decide) (fun _ _ => trivial)).mono ?_
  rintro e w6 ⟨fu, _, rfl, hc, hg⟩
  have HC6 := Lib.hid hc
  have HG6 := Lib.hid (grown_trans HG5.out hg)
  have HZ6 := Lib.hid (has_grown HZ5.out hg HNE.out)
  clear hc hg HC5 HG5 HZ5
  obtain ⟨v, hv⟩ : ∃ v : CC, v = ⟨id, s, dr, ah, be, sp, fu⟩ := ⟨_, rfl⟩
  have hv0 : v.id = id := by rw [hv]
  have hv1 : v.nm = s := by rw [hv]
  have hv2 : v.dr = dr := by rw [hv]
  have hv3 : v.ah = ah := by rw [hv]
  have hv4 : v.be = be := by rw [hv]
  have hv5 : v.sp = sp := by rw [hv]
  have hv6 : v.fu = fu := by rw [hv]
  have HS : Hid (v.nm.size ≤ 11) := Lib.hid (by rw [hv1]; exact hs)
  subst hv0 hv1 hv2 hv3 hv4 hv5 hv6
  clear hv hs
  obtain ⟨W0, hW0⟩ : ∃ W0, W0 = w6.alloc (.cells #[.int .i64 v.id, .string v.nm, .int .i64 v.dr, .int .i64 v.ah, .int .i64 v.be, .int .i64 v.sp, .int .i64 v.fu] 25) := ⟨_, rfl⟩
  have HE := Lib.hid hW0
  have HB0 : Hid (Has W0 w6.heap.size [.int .i64 v.id, .string v.nm, .int .i64 v.dr, .int .i64 v.ah, .int .i64 v.be, .int .i64 v.sp, .int .i64 v.fu]) := by rw [hW0]; exact Lib.hid (by simpa using Has.new w6 #[.int .i64 v.id, .string v.nm, .int .i64 v.dr, .int .i64 v.ah, .int .i64 v.be, .int .i64 v.sp, .int .i64 v.fu] 25)
  have HC7 : Hid (Cur B A n c g (k + 1 + 1 + 1 + 1 + 1 + 1) W0) := by rw [hW0]; exact Lib.hid (HC6.out.alloc _)
  have HG7 : Hid (w.grownBy W0 (some g)) := by rw [hW0]; exact Lib.hid (grown_trans HG6.out (World.grownBy_alloc _ _ _))
  have HZ7 : Hid (Has W0 w.heap.size [.int .i64 0, .string ⟨#[]⟩, .int .i64 0, .int .i64 0, .int .i64 0, .int .i64 0, .int .i64 0]) := by rw [hW0]; exact Lib.hid (HZ6.out.alloc _)
  have hlt6 : w.heap.size < w6.heap.size := HZ6.out.1
  have HNB : Hid (some w6.heap.size ≠ some g) := Lib.hid fun e => by have := Option.some.inj e; have := HC6.out.lt; omega
  clear hW0 HC6 HG6 HZ6
  go_upto_region 2 with fail
  rw [← HE.out]
  go_wp2_with fail
  refine (pick_any _ _ _ _ _ _ 80 _ HC7.out (by omega) (by decide) (by decide)).mono ?_
  rintro e w8 ⟨q, hq, rfl, hc, hg⟩
  have HC8 := Lib.hid hc
  have HG8 := Lib.hid (grown_trans HG7.out hg)
  have HZ8 := Lib.hid (has_grown HZ7.out hg HNE.out)
  have HB8 := Lib.hid (has_grown HB0.out hg HNB.out)
  clear hc hg HC7 HG7 HZ7 HB0
  by_cases hq0 : q = 0
  · subst hq0
    go_wp2_with fail
    refine (among_at AnyI _ _ _ _ _ _ _ 3 [0, 99, 100] _ HC8.out rfl (by omega) (by decide) (by decide) (fun _ _ => trivial)).mono ?_
    rintro e w9 ⟨x, _, rfl, hc, hg⟩
    have HC9 := Lib.hid hc
    have HG9 := Lib.hid (grown_trans HG8.out hg)
    have HZ9 := Lib.hid (has_grown HZ8.out hg HNE.out)
    have HB9 := Lib.hid (has_grown HB8.out hg HNB.out)
    clear hc hg HC8 HG8 HZ8 HB8
    have b := HB9.out.at_ 0 _ rfl
    have fb := HB9.out.free 0
    go_upto_region 17 with fail
    obtain ⟨W1, hW1⟩ : ∃ W, W = w9.setCell ⟨w6.heap.size, 0, none⟩ (.int .i64 x) := ⟨_, rfl⟩
    rw [← hW1]
    obtain ⟨u, hu⟩ : ∃ u : CC, u = ⟨x, v.nm, v.dr, v.ah, v.be, v.sp, v.fu⟩ := ⟨_, rfl⟩
    have HB1 : Hid (Has W1 w6.heap.size [.int .i64 u.id, .string u.nm, .int .i64 u.dr, .int .i64 u.ah, .int .i64 u.be, .int .i64 u.sp, .int .i64 u.fu]) := by rw [hW1, hu]; exact Lib.hid (HB9.out.set 0 _)
    have HZ1 : Hid (Has W1 w.heap.size [.int .i64 0, .string ⟨#[]⟩, .int .i64 0, .int .i64 0, .int .i64 0, .int .i64 0, .int .i64 0]) := by rw [hW1]; exact Lib.hid (HZ9.out.far (p := ⟨w6.heap.size, 0, none⟩) (by show w6.heap.size ≠ w.heap.size; omega) _)
    have HC1 : Hid (Cur B A n c g (k + 1 + 1 + 1 + 1 + 1 + 1 + 1 + 1) W1) := by rw [hW1]; exact Lib.hid (HC9.out.set (fun e => HNB.out (by rw [e])) (by have := HC9.out.old; omega) 0 _)
    have HG1 : Hid (w.grownBy W1 (some g)) := by rw [hW1]; exact Lib.hid (grown_put HG9.out (Nat.le_of_lt hlt6) 0 _)
    have HSu : Hid (u.nm.size ≤ 11) := Lib.hid (by rw [hu]; exact HS.out)
    clear hW1 hu b fb HC9 HG9 HZ9 HB9
    have a0 := HB1.out.at_ 0 _ rfl
    have a1 := HB1.out.at_ 1 _ rfl
    have a2 := HB1.out.at_ 2 _ rfl
    have a3 := HB1.out.at_ 3 _ rfl
    have a4 := HB1.out.at_ 4 _ rfl
    have a5 := HB1.out.at_ 5 _ rfl
    have a6 := HB1.out.at_ 6 _ rfl
    have z0 := HZ1.out.at_ 0 _ rfl
    have z1 := HZ1.out.at_ 1 _ rfl
    have z2 := HZ1.out.at_ 2 _ rfl
    have z3 := HZ1.out.at_ 3 _ rfl
    have z4 := HZ1.out.at_ 4 _ rfl
    have z5 := HZ1.out.at_ 5 _ rfl
    have z6 := HZ1.out.at_ 6 _ rfl
    have f0 := HZ1.out.free 0
    have f1 := HZ1.out.free 1
    have f2 := HZ1.out.free 2
    have f3 := HZ1.out.free 3
    have f4 := HZ1.out.free 4
    have f5 := HZ1.out.free 5
    have f6 := HZ1.out.free 6
    have HR := Lib.hid (layC HZ1.out rfl u)
    have HCR := Lib.hid (HC1.out.kept (setL_grown [.int .i64 u.id, .string u.nm, .int .i64 u.dr, .int .i64 u.ah, .int .i64 u.be, .int .i64 u.sp, .int .i64 u.fu] W1 w.heap.size 0) (fun e => HNE.out e.symm) (fun i e => by have := Option.some.inj e; have := HC1.out.old; omega))
    have HGR := Lib.hid (grown_new HG1.out (setL_grown [.int .i64 u.id, .string u.nm, .int .i64 u.dr, .int .i64 u.ah, .int .i64 u.be, .int .i64 u.sp, .int .i64 u.fu] W1 w.heap.size 0) (Nat.le_refl _))
    have r0 := HR.out.at_ 0 _ rfl
    have r1 := HR.out.at_ 1 _ rfl
    have r2 := HR.out.at_ 2 _ rfl
    have r3 := HR.out.at_ 3 _ rfl
    have r4 := HR.out.at_ 4 _ rfl
    have r5 := HR.out.at_ 5 _ rfl
    have r6 := HR.out.at_ 6 _ rfl
    simp only [setL] at r0 r1 r2 r3 r4 r5 r6
    go_wp2_with fail
    refine bodyPost_ret (v := .agg #[.int .i64 u.id, .string u.nm, .int .i64 u.dr, .int .i64 u.ah, .int .i64 u.be, .int .i64 u.sp, .int .i64 u.fu]) (by simp [results, Tryd.results20, go_sem, r0, r1, r2, r3, r4, r5, r6]) rfl ⟨u, _, by omega, by omega, HSu.out, rfl, HCR.out, HGR.out⟩
  have hq0' : ((q : Int) == 0) = false := beq_eq_false_iff_ne.2 (by omega)
  by_cases hq1 : q = 1
  · subst hq1
    go_wp2_with fail
    refine (of_at 11 _ _ _ _ _ _ _ 3 [⟨#[]⟩, ⟨#[65]⟩, ⟨#[97, 98, 99, 100, 101, 102, 103, 104, 105, 106, 107]⟩] _ HC8.out rfl (by omega) (by decide) (by decide) (by intro x hx; simp only [List.mem_cons, List.not_mem_nil, or_false] at hx; rcases hx with rfl | rfl | rfl <;> decide)).mono ?_
    rintro e w9 ⟨x, hx, rfl, hc, hg⟩
    have HC9 := Lib.hid hc
    have HG9 := Lib.hid (grown_trans HG8.out hg)
    have HZ9 := Lib.hid (has_grown HZ8.out hg HNE.out)
    have HB9 := Lib.hid (has_grown HB8.out hg HNB.out)
    clear hc hg HC8 HG8 HZ8 HB8
    have b := HB9.out.at_ 1 _ rfl
    have fb := HB9.out.free 1
    go_upto_region 17 with fail
    obtain ⟨W1, hW1⟩ : ∃ W, W = w9.setCell ⟨w6.heap.size, 1, none⟩ (.string x) := ⟨_, rfl⟩
    rw [← hW1]
    obtain ⟨u, hu⟩ : ∃ u : CC, u = ⟨v.id, x, v.dr, v.ah, v.be, v.sp, v.fu⟩ := ⟨_, rfl⟩
    have HB1 : Hid (Has W1 w6.heap.size [.int .i64 u.id, .string u.nm, .int .i64 u.dr, .int .i64 u.ah, .int .i64 u.be, .int .i64 u.sp, .int .i64 u.fu]) := by rw [hW1, hu]; exact Lib.hid (HB9.out.set 1 _)
    have HZ1 : Hid (Has W1 w.heap.size [.int .i64 0, .string ⟨#[]⟩, .int .i64 0, .int .i64 0, .int .i64 0, .int .i64 0, .int .i64 0]) := by rw [hW1]; exact Lib.hid (HZ9.out.far (p := ⟨w6.heap.size, 1, none⟩) (by show w6.heap.size ≠ w.heap.size; omega) _)
    have HC1 : Hid (Cur B A n c g (k + 1 + 1 + 1 + 1 + 1 + 1 + 1 + 1) W1) := by rw [hW1]; exact Lib.hid (HC9.out.set (fun e => HNB.out (by rw [e])) (by have := HC9.out.old; omega) 1 _)
    have HG1 : Hid (w.grownBy W1 (some g)) := by rw [hW1]; exact Lib.hid (grown_put HG9.out (Nat.le_of_lt hlt6) 1 _)
    have HSu : Hid (u.nm.size ≤ 11) := Lib.hid (by rw [hu]; exact hx)
    clear hW1 hu b fb HC9 HG9 HZ9 HB9
    have a0 := HB1.out.at_ 0 _ rfl
    have a1 := HB1.out.at_ 1 _ rfl
    have a2 := HB1.out.at_ 2 _ rfl
    have a3 := HB1.out.at_ 3 _ rfl
    have a4 := HB1.out.at_ 4 _ rfl
    have a5 := HB1.out.at_ 5 _ rfl
    have a6 := HB1.out.at_ 6 _ rfl
    have z0 := HZ1.out.at_ 0 _ rfl
    have z1 := HZ1.out.at_ 1 _ rfl
    have z2 := HZ1.out.at_ 2 _ rfl
    have z3 := HZ1.out.at_ 3 _ rfl
    have z4 := HZ1.out.at_ 4 _ rfl
    have z5 := HZ1.out.at_ 5 _ rfl
    have z6 := HZ1.out.at_ 6 _ rfl
    have f0 := HZ1.out.free 0
    have f1 := HZ1.out.free 1
    have f2 := HZ1.out.free 2
    have f3 := HZ1.out.free 3
    have f4 := HZ1.out.free 4
    have f5 := HZ1.out.free 5
    have f6 := HZ1.out.free 6
    have HR := Lib.hid (layC HZ1.out rfl u)
    have HCR := Lib.hid (HC1.out.kept (setL_grown [.int .i64 u.id, .string u.nm, .int .i64 u.dr, .int .i64 u.ah, .int .i64 u.be, .int .i64 u.sp, .int .i64 u.fu] W1 w.heap.size 0) (fun e => HNE.out e.symm) (fun i e => by have := Option.some.inj e; have := HC1.out.old; omega))
    have HGR := Lib.hid (grown_new HG1.out (setL_grown [.int .i64 u.id, .string u.nm, .int .i64 u.dr, .int .i64 u.ah, .int .i64 u.be, .int .i64 u.sp, .int .i64 u.fu] W1 w.heap.size 0) (Nat.le_refl _))
    have r0 := HR.out.at_ 0 _ rfl
    have r1 := HR.out.at_ 1 _ rfl
    have r2 := HR.out.at_ 2 _ rfl
    have r3 := HR.out.at_ 3 _ rfl
    have r4 := HR.out.at_ 4 _ rfl
    have r5 := HR.out.at_ 5 _ rfl
    have r6 := HR.out.at_ 6 _ rfl
    simp only [setL] at r0 r1 r2 r3 r4 r5 r6
    go_wp2_with fail
    refine bodyPost_ret (v := .agg #[.int .i64 u.id, .string u.nm, .int .i64 u.dr, .int .i64 u.ah, .int .i64 u.be, .int .i64 u.sp, .int .i64 u.fu]) (by simp [results, Tryd.results20, go_sem, r0, r1, r2, r3, r4, r5, r6]) rfl ⟨u, _, by omega, by omega, HSu.out, rfl, HCR.out, HGR.out⟩
  have hq1' : ((q : Int) == 1) = false := beq_eq_false_iff_ne.2 (by omega)
  by_cases hq2 : q = 2
  · subst hq2
    go_wp2_with fail
    refine (among_at AnyI _ _ _ _ _ _ _ 2 [9, 2001] _ HC8.out rfl (by omega) (by decide) (by decide) (fun _ _ => trivial)).mono ?_
    rintro e w9 ⟨x, _, rfl, hc, hg⟩
    have HC9 := Lib.hid hc
    have HG9 := Lib.hid (grown_trans HG8.out hg)
    have HZ9 := Lib.hid (has_grown HZ8.out hg HNE.out)
    have HB9 := Lib.hid (has_grown HB8.out hg HNB.out)
    clear hc hg HC8 HG8 HZ8 HB8
    have b := HB9.out.at_ 2 _ rfl
    have fb := HB9.out.free 2
    go_upto_region 17 with fail
    obtain ⟨W1, hW1⟩ : ∃ W, W = w9.setCell ⟨w6.heap.size, 2, none⟩ (.int .i64 x) := ⟨_, rfl⟩
    rw [← hW1]
    obtain ⟨u, hu⟩ : ∃ u : CC, u = ⟨v.id, v.nm, x, v.ah, v.be, v.sp, v.fu⟩ := ⟨_, rfl⟩
    have HB1 : Hid (Has W1 w6.heap.size [.int .i64 u.id, .string u.nm, .int .i64 u.dr, .int .i64 u.ah, .int .i64 u.be, .int .i64 u.sp, .int .i64 u.fu]) := by rw [hW1, hu]; exact Lib.hid (HB9.out.set 2 _)
    have HZ1 : Hid (Has W1 w.heap.size [.int .i64 0, .string ⟨#[]⟩, .int .i64 0, .int .i64 0, .int .i64 0, .int .i64 0, .int .i64 0]) := by rw [hW1]; exact Lib.hid (HZ9.out.far (p := ⟨w6.heap.size, 2, none⟩) (by show w6.heap.size ≠ w.heap.size; omega) _)
    have HC1 : Hid (Cur B A n c g (k + 1 + 1 + 1 + 1 + 1 + 1 + 1 + 1) W1) := by rw [hW1]; exact Lib.hid (HC9.out.set (fun e => HNB.out (by rw [e])) (by have := HC9.out.old; omega) 2 _)
    have HG1 : Hid (w.grownBy W1 (some g)) := by rw [hW1]; exact Lib.hid (grown_put HG9.out (Nat.le_of_lt hlt6) 2 _)
    have HSu : Hid (u.nm.size ≤ 11) := Lib.hid (by rw [hu]; exact HS.out)
    clear hW1 hu b fb HC9 HG9 HZ9 HB9
    have a0 := HB1.out.at_ 0 _ rfl
    have a1 := HB1.out.at_ 1 _ rfl
    have a2 := HB1.out.at_ 2 _ rfl
    have a3 := HB1.out.at_ 3 _ rfl
    have a4 := HB1.out.at_ 4 _ rfl
    have a5 := HB1.out.at_ 5 _ rfl
    have a6 := HB1.out.at_ 6 _ rfl
    have z0 := HZ1.out.at_ 0 _ rfl
    have z1 := HZ1.out.at_ 1 _ rfl
    have z2 := HZ1.out.at_ 2 _ rfl
    have z3 := HZ1.out.at_ 3 _ rfl
    have z4 := HZ1.out.at_ 4 _ rfl
    have z5 := HZ1.out.at_ 5 _ rfl
    have z6 := HZ1.out.at_ 6 _ rfl
    have f0 := HZ1.out.free 0
    have f1 := HZ1.out.free 1
    have f2 := HZ1.out.free 2
    have f3 := HZ1.out.free 3
    have f4 := HZ1.out.free 4
    have f5 := HZ1.out.free 5
    have f6 := HZ1.out.free 6
    have HR := Lib.hid (layC HZ1.out rfl u)
    have HCR := Lib.hid (HC1.out.kept (setL_grown [.int .i64 u.id, .string u.nm, .int .i64 u.dr, .int .i64 u.ah, .int .i64 u.be, .int .i64 u.sp, .int .i64 u.fu] W1 w.heap.size 0) (fun e => HNE.out e.symm) (fun i e => by have := Option.some.inj e; have := HC1.out.old; omega))
    have HGR := Lib.hid (grown_new HG1.out (setL_grown [.int .i64 u.id, .string u.nm, .int .i64 u.dr, .int .i64 u.ah, .int .i64 u.be, .int .i64 u.sp, .int .i64 u.fu] W1 w.heap.size 0) (Nat.le_refl _))
    have r0 := HR.out.at_ 0 _ rfl
    have r1 := HR.out.at_ 1 _ rfl
    have r2 := HR.out.at_ 2 _ rfl
    have r3 := HR.out.at_ 3 _ rfl
    have r4 := HR.out.at_ 4 _ rfl
    have r5 := HR.out.at_ 5 _ rfl
    have r6 := HR.out.at_ 6 _ rfl
    simp only [setL] at r0 r1 r2 r3 r4 r5 r6
    go_wp2_with fail
    refine bodyPost_ret (v := .agg #[.int .i64 u.id, .string u.nm, .int .i64 u.dr, .int .i64 u.ah, .int .i64 u.be, .int .i64 u.sp, .int .i64 u.fu]) (by simp [results, Tryd.results20, go_sem, r0, r1, r2, r3, r4, r5, r6]) rfl ⟨u, _, by omega, by omega, HSu.out, rfl, HCR.out, HGR.out⟩
  have hq2' : ((q : Int) == 2) = false := beq_eq_false_iff_ne.2 (by omega)
  by_cases hq3 : q = 3
  · subst hq3
    go_wp2_with fail
    refine (among_at AnyI _ _ _ _ _ _ _ 2 [-501, 501] _ HC8.out rfl (by omega) (by decide) (by decide) (fun _ _ => trivial)).mono ?_
    rintro e w9 ⟨x, _, rfl, hc, hg⟩
    have HC9 := Lib.hid hc
    have HG9 := Lib.hid (grown_trans HG8.out hg)
    have HZ9 := Lib.hid (has_grown HZ8.out hg HNE.out)
    have HB9 := Lib.hid (has_grown HB8.out hg HNB.out)
    clear hc hg HC8 HG8 HZ8 HB8
    have b := HB9.out.at_ 3 _ rfl
    have fb := HB9.out.free 3
    go_upto_region 17 with fail
    obtain ⟨W1, hW1⟩ : ∃ W, W = w9.setCell ⟨w6.heap.size, 3, none⟩ (.int .i64 x) := ⟨_, rfl⟩
    rw [← hW1]
    obtain ⟨u, hu⟩ : ∃ u : CC, u = ⟨v.id, v.nm, v.dr, x, v.be, v.sp, v.fu⟩ := ⟨_, rfl⟩
    have HB1 : Hid (Has W1 w6.heap.size [.int .i64 u.id, .string u.nm, .int .i64 u.dr, .int .i64 u.ah, .int .i64 u.be, .int .i64 u.sp, .int .i64 u.fu]) := by rw [hW1, hu]; exact Lib.hid (HB9.out.set 3 _)
    have HZ1 : Hid (Has W1 w.heap.size [.int .i64 0, .string ⟨#[]⟩, .int .i64 0, .int .i64 0, .int .i64 0, .int .i64 0, .int .i64 0]) := by rw [hW1]; exact Lib.hid (HZ9.out.far (p := ⟨w6.heap.size, 3, none⟩) (by show w6.heap.size ≠ w.heap.size; omega) _)
    have HC1 : Hid (Cur B A n c g (k + 1 + 1 + 1 + 1 + 1 + 1 + 1 + 1) W1) := by rw [hW1]; exact Lib.hid (HC9.out.set (fun e => HNB.out (by rw [e])) (by have := HC9.out.old; omega) 3 _)
    have HG1 : Hid (w.grownBy W1 (some g)) := by rw [hW1]; exact Lib.hid (grown_put HG9.out (Nat.le_of_lt hlt6) 3 _)
    have HSu : Hid (u.nm.size ≤ 11) := Lib.hid (by rw [hu]; exact HS.out)
    clear hW1 hu b fb HC9 HG9 HZ9 HB9
    have a0 := HB1.out.at_ 0 _ rfl
    have a1 := HB1.out.at_ 1 _ rfl
    have a2 := HB1.out.at_ 2 _ rfl
    have a3 := HB1.out.at_ 3 _ rfl
    have a4 := HB1.out.at_ 4 _ rfl
    have a5 := HB1.out.at_ 5 _ rfl
    have a6 := HB1.out.at_ 6 _ rfl
    have z0 := HZ1.out.at_ 0 _ rfl
    have z1 := HZ1.out.at_ 1 _ rfl
    have z2 := HZ1.out.at_ 2 _ rfl
    have z3 := HZ1.out.at_ 3 _ rfl
    have z4 := HZ1.out.at_ 4 _ rfl
    have z5 := HZ1.out.at_ 5 _ rfl
    have z6 := HZ1.out.at_ 6 _ rfl
    have f0 := HZ1.out.free 0
    have f1 := HZ1.out.free 1
    have f2 := HZ1.out.free 2
    have f3 := HZ1.out.free 3
    have f4 := HZ1.out.free 4
    have f5 := HZ1.out.free 5
    have f6 := HZ1.out.free 6
    have HR := Lib.hid (layC HZ1.out rfl u)
    have HCR := Lib.hid (HC1.out.kept (setL_grown [.int .i64 u.id, .string u.nm, .int .i64 u.dr, .int .i64 u.ah, .int .i64 u.be, .int .i64 u.sp, .int .i64 u.fu] W1 w.heap.size 0) (fun e => HNE.out e.symm) (fun i e => by have := Option.some.inj e; have := HC1.out.old; omega))
    have HGR := Lib.hid (grown_new HG1.out (setL_grown [.int .i64 u.id, .string u.nm, .int .i64 u.dr, .int .i64 u.ah, .int .i64 u.be, .int .i64 u.sp, .int .i64 u.fu] W1 w.heap.size 0) (Nat.le_refl _))
    have r0 := HR.out.at_ 0 _ rfl
    have r1 := HR.out.at_ 1 _ rfl
    have r2 := HR.out.at_ 2 _ rfl
    have r3 := HR.out.at_ 3 _ rfl
    have r4 := HR.out.at_ 4 _ rfl
    have r5 := HR.out.at_ 5 _ rfl
    have r6 := HR.out.at_ 6 _ rfl
    simp only [setL] at r0 r1 r2 r3 r4 r5 r6
    go_wp2_with fail
    refine bodyPost_ret (v := .agg #[.int .i64 u.id, .string u.nm, .int .i64 u.dr, .int .i64 u.ah, .int .i64 u.be, .int .i64 u.sp, .int .i64 u.fu]) (by simp [results, Tryd.results20, go_sem, r0, r1, r2, r3, r4, r5, r6]) rfl ⟨u, _, by omega, by omega, HSu.out, rfl, HCR.out, HGR.out⟩
  have hq3' : ((q : Int) == 3) = false := beq_eq_false_iff_ne.2 (by omega)
  by_cases hq4 : q = 4
  · subst hq4
    go_wp2_with fail
    refine (among_at AnyI _ _ _ _ _ _ _ 2 [-201, 201] _ HC8.out rfl (by omega) (by decide) (by decide) (fun _ _ => trivial)).mono ?_
    rintro e w9 ⟨x, _, rfl, hc, hg⟩
    have HC9 := Lib.hid hc
    have HG9 := Lib.hid (grown_trans HG8.out hg)
    have HZ9 := Lib.hid (has_grown HZ8.out hg HNE.out)
    have HB9 := Lib.hid (has_grown HB8.out hg HNB.out)
    clear hc hg HC8 HG8 HZ8 HB8
    have b := HB9.out.at_ 4 _ rfl
    have fb := HB9.out.free 4
    go_upto_region 17 with fail
    obtain ⟨W1, hW1⟩ : ∃ W, W = w9.setCell ⟨w6.heap.size, 4, none⟩ (.int .i64 x) := ⟨_, rfl⟩
    rw [← hW1]
    obtain ⟨u, hu⟩ : ∃ u : CC, u = ⟨v.id, v.nm, v.dr, v.ah, x, v.sp, v.fu⟩ := ⟨_, rfl⟩
    have HB1 : Hid (Has W1 w6.heap.size [.int .i64 u.id, .string u.nm, .int .i64 u.dr, .int .i64 u.ah, .int .i64 u.be, .int .i64 u.sp, .int .i64 u.fu]) := by rw [hW1, hu]; exact Lib.hid (HB9.out.set 4 _)
    have HZ1 : Hid (Has W1 w.heap.size [.int .i64 0, .string ⟨#[]⟩, .int .i64 0, .int .i64 0, .int .i64 0, .int .i64 0, .int .i64 0]) := by rw [hW1]; exact Lib.hid (HZ9.out.far (p := ⟨w6.heap.size, 4, none⟩) (by show w6.heap.size ≠ w.heap.size; omega) _)
    have HC1 : Hid (Cur B A n c g (k + 1 + 1 + 1 + 1 + 1 + 1 + 1 + 1) W1) := by rw [hW1]; exact Lib.hid (HC9.out.set (fun e => HNB.out (by rw [e])) (by have := HC9.out.old; omega) 4 _)
    have HG1 : Hid (w.grownBy W1 (some g)) := by rw [hW1]; exact Lib.hid (grown_put HG9.out (Nat.le_of_lt hlt6) 4 _)
    have HSu : Hid (u.nm.size ≤ 11) := Lib.hid (by rw [hu]; exact HS.out)
    clear hW1 hu b fb HC9 HG9 HZ9 HB9
    have a0 := HB1.out.at_ 0 _ rfl
    have a1 := HB1.out.at_ 1 _ rfl
    have a2 := HB1.out.at_ 2 _ rfl
    have a3 := HB1.out.at_ 3 _ rfl
    have a4 := HB1.out.at_ 4 _ rfl
    have a5 := HB1.out.at_ 5 _ rfl
    have a6 := HB1.out.at_ 6 _ rfl
    have z0 := HZ1.out.at_ 0 _ rfl
    have z1 := HZ1.out.at_ 1 _ rfl
    have z2 := HZ1.out.at_ 2 _ rfl
    have z3 := HZ1.out.at_ 3 _ rfl
    have z4 := HZ1.out.at_ 4 _ rfl
    have z5 := HZ1.out.at_ 5 _ rfl
    have z6 := HZ1.out.at_ 6 _ rfl
    have f0 := HZ1.out.free 0
    have f1 := HZ1.out.free 1
    have f2 := HZ1.out.free 2
    have f3 := HZ1.out.free 3
    have f4 := HZ1.out.free 4
    have f5 := HZ1.out.free 5
    have f6 := HZ1.out.free 6
    have HR := Lib.hid (layC HZ1.out rfl u)
    have HCR := Lib.hid (HC1.out.kept (setL_grown [.int .i64 u.id, .string u.nm, .int .i64 u.dr, .int .i64 u.ah, .int .i64 u.be, .int .i64 u.sp, .int .i64 u.fu] W1 w.heap.size 0) (fun e => HNE.out e.symm) (fun i e => by have := Option.some.inj e; have := HC1.out.old; omega))
    have HGR := Lib.hid (grown_new HG1.out (setL_grown [.int .i64 u.id, .string u.nm, .int .i64 u.dr, .int .i64 u.ah, .int .i64 u.be, .int .i64 u.sp, .int .i64 u.fu] W1 w.heap.size 0) (Nat.le_refl _))
    have r0 := HR.out.at_ 0 _ rfl
    have r1 := HR.out.at_ 1 _ rfl
    have r2 := HR.out.at_ 2 _ rfl
    have r3 := HR.out.at_ 3 _ rfl
    have r4 := HR.out.at_ 4 _ rfl
    have r5 := HR.out.at_ 5 _ rfl
    have r6 := HR.out.at_ 6 _ rfl
    simp only [setL] at r0 r1 r2 r3 r4 r5 r6
    go_wp2_with fail
    refine bodyPost_ret (v := .agg #[.int .i64 u.id, .string u.nm, .int .i64 u.dr, .int .i64 u.ah, .int .i64 u.be, .int .i64 u.sp, .int .i64 u.fu]) (by simp [results, Tryd.results20, go_sem, r0, r1, r2, r3, r4, r5, r6]) rfl ⟨u, _, by omega, by omega, HSu.out, rfl, HCR.out, HGR.out⟩
  have hq4' : ((q : Int) == 4) = false := beq_eq_false_iff_ne.2 (by omega)
  by_cases hq5 : q = 5
  · subst hq5
    go_wp2_with fail
    refine (among_at AnyI _ _ _ _ _ _ _ 2 [0, 61] _ HC8.out rfl (by omega) (by decide) (by decide) (fun _ _ => trivial)).mono ?_
    rintro e w9 ⟨x, _, rfl, hc, hg⟩
    have HC9 := Lib.hid hc
    have HG9 := Lib.hid (grown_trans HG8.out hg)
    have HZ9 := Lib.hid (has_grown HZ8.out hg HNE.out)
    have HB9 := Lib.hid (has_grown HB8.out hg HNB.out)
    clear hc hg HC8 HG8 HZ8 HB8
    have b := HB9.out.at_ 5 _ rfl
    have fb := HB9.out.free 5
    go_upto_region 17 with fail
    obtain ⟨W1, hW1⟩ : ∃ W, W = w9.setCell ⟨w6.heap.size, 5, none⟩ (.int .i64 x) := ⟨_, rfl⟩
    rw [← hW1]
    obtain ⟨u, hu⟩ : ∃ u : CC, u = ⟨v.id, v.nm, v.dr, v.ah, v.be, x, v.fu⟩ := ⟨_, rfl⟩
    have HB1 : Hid (Has W1 w6.heap.size [.int .i64 u.id, .string u.nm, .int .i64 u.dr, .int .i64 u.ah, .int .i64 u.be, .int .i64 u.sp, .int .i64 u.fu]) := by rw [hW1, hu]; exact Lib.hid (HB9.out.set 5 _)
    have HZ1 : Hid (Has W1 w.heap.size [.int .i64 0, .string ⟨#[]⟩, .int .i64 0, .int .i64 0, .int .i64 0, .int .i64 0, .int .i64 0]) := by rw [hW1]; exact Lib.hid (HZ9.out.far (p := ⟨w6.heap.size, 5, none⟩) (by show w6.heap.size ≠ w.heap.size; omega) _)
    have HC1 : Hid (Cur B A n c g (k + 1 + 1 + 1 + 1 + 1 + 1 + 1 + 1) W1) := by rw [hW1]; exact Lib.hid (HC9.out.set (fun e => HNB.out (by rw [e])) (by have := HC9.out.old; omega) 5 _)
    have HG1 : Hid (w.grownBy W1 (some g)) := by rw [hW1]; exact Lib.hid (grown_put HG9.out (Nat.le_of_lt hlt6) 5 _)
    have HSu : Hid (u.nm.size ≤ 11) := Lib.hid (by rw [hu]; exact HS.out)
    clear hW1 hu b fb HC9 HG9 HZ9 HB9
    have a0 := HB1.out.at_ 0 _ rfl
    have a1 := HB1.out.at_ 1 _ rfl
    have a2 := HB1.out.at_ 2 _ rfl
    have a3 := HB1.out.at_ 3 _ rfl
    have a4 := HB1.out.at_ 4 _ rfl
    have a5 := HB1.out.at_ 5 _ rfl
    have a6 := HB1.out.at_ 6 _ rfl
    have z0 := HZ1.out.at_ 0 _ rfl
    have z1 := HZ1.out.at_ 1 _ rfl
    have z2 := HZ1.out.at_ 2 _ rfl
    have z3 := HZ1.out.at_ 3 _ rfl
    have z4 := HZ1.out.at_ 4 _ rfl
    have z5 := HZ1.out.at_ 5 _ rfl
    have z6 := HZ1.out.at_ 6 _ rfl
    have f0 := HZ1.out.free 0
    have f1 := HZ1.out.free 1
    have f2 := HZ1.out.free 2
    have f3 := HZ1.out.free 3
    have f4 := HZ1.out.free 4
    have f5 := HZ1.out.free 5
    have f6 := HZ1.out.free 6
    have HR := Lib.hid (layC HZ1.out rfl u)
    have HCR := Lib.hid (HC1.out.kept (setL_grown [.int .i64 u.id, .string u.nm, .int .i64 u.dr, .int .i64 u.ah, .int .i64 u.be, .int .i64 u.sp, .int .i64 u.fu] W1 w.heap.size 0) (fun e => HNE.out e.symm) (fun i e => by have := Option.some.inj e; have := HC1.out.old; omega))
    have HGR := Lib.hid (grown_new HG1.out (setL_grown [.int .i64 u.id, .string u.nm, .int .i64 u.dr, .int .i64 u.ah, .int .i64 u.be, .int .i64 u.sp, .int .i64 u.fu] W1 w.heap.size 0) (Nat.le_refl _))
    have r0 := HR.out.at_ 0 _ rfl
    have r1 := HR.out.at_ 1 _ rfl
    have r2 := HR.out.at_ 2 _ rfl
    have r3 := HR.out.at_ 3 _ rfl
    have r4 := HR.out.at_ 4 _ rfl
    have r5 := HR.out.at_ 5 _ rfl
    have r6 := HR.out.at_ 6 _ rfl
    simp only [setL] at r0 r1 r2 r3 r4 r5 r6
    go_wp2_with fail
    refine bodyPost_ret (v := .agg #[.int .i64 u.id, .string u.nm, .int .i64 u.dr, .int .i64 u.ah, .int .i64 u.be, .int .i64 u.sp, .int .i64 u.fu]) (by simp [results, Tryd.results20, go_sem, r0, r1, r2, r3, r4, r5, r6]) rfl ⟨u, _, by omega, by omega, HSu.out, rfl, HCR.out, HGR.out⟩
  have hq5' : ((q : Int) == 5) = false := beq_eq_false_iff_ne.2 (by omega)
  by_cases hq6 : q = 6
  · subst hq6
    go_wp2_with fail
    refine (among_at AnyI _ _ _ _ _ _ _ 2 [-1, 10001] _ HC8.out rfl (by omega) (by decide) (by decide) (fun _ _ => trivial)).mono ?_
    rintro e w9 ⟨x, _, rfl, hc, hg⟩
    have HC9 := Lib.hid hc
    have HG9 := Lib.hid (grown_trans HG8.out hg)
    have HZ9 := Lib.hid (has_grown HZ8.out hg HNE.out)
    have HB9 := Lib.hid (has_grown HB8.out hg HNB.out)
    clear hc hg HC8 HG8 HZ8 HB8
    have b := HB9.out.at_ 6 _ rfl
    have fb := HB9.out.free 6
    go_upto_region 17 with fail
    obtain ⟨W1, hW1⟩ : ∃ W, W = w9.setCell ⟨w6.heap.size, 6, none⟩ (.int .i64 x) := ⟨_, rfl⟩
    rw [← hW1]
    obtain ⟨u, hu⟩ : ∃ u : CC, u = ⟨v.id, v.nm, v.dr, v.ah, v.be, v.sp, x⟩ := ⟨_, rfl⟩
    have HB1 : Hid (Has W1 w6.heap.size [.int .i64 u.id, .string u.nm, .int .i64 u.dr, .int .i64 u.ah, .int .i64 u.be, .int .i64 u.sp, .int .i64 u.fu]) := by rw [hW1, hu]; exact Lib.hid (HB9.out.set 6 _)
    have HZ1 : Hid (Has W1 w.heap.size [.int .i64 0, .string ⟨#[]⟩, .int .i64 0, .int .i64 0, .int .i64 0, .int .i64 0, .int .i64 0]) := by rw [hW1]; exact Lib.hid (HZ9.out.far (p := ⟨w6.heap.size, 6, none⟩) (by show w6.heap.size ≠ w.heap.size; omega) _)
    have HC1 : Hid (Cur B A n c g (k + 1 + 1 + 1 + 1 + 1 + 1 + 1 + 1) W1) := by rw [hW1]; exact Lib.hid (HC9.out.set (fun e => HNB.out (by rw [e])) (by have := HC9.out.old; omega) 6 _)
    have HG1 : Hid (w.grownBy W1 (some g)) := by rw [hW1]; exact Lib.hid (grown_put HG9.out (Nat.le_of_lt hlt6) 6 _)
    have HSu : Hid (u.nm.size ≤ 11) := Lib.hid (by rw [hu]; exact HS.out)
    clear hW1 hu b fb HC9 HG9 HZ9 HB9
    have a0 := HB1.out.at_ 0 _ rfl
    have a1 := HB1.out.at_ 1 _ rfl
    have a2 := HB1.out.at_ 2 _ rfl
    have a3 := HB1.out.at_ 3 _ rfl
    have a4 := HB1.out.at_ 4 _ rfl
    have a5 := HB1.out.at_ 5 _ rfl
    have a6 := HB1.out.at_ 6 _ rfl
    have z0 := HZ1.out.at_ 0 _ rfl
    have z1 := HZ1.out.at_ 1 _ rfl
    have z2 := HZ1.out.at_ 2 _ rfl
    have z3 := HZ1.out.at_ 3 _ rfl
    have z4 := HZ1.out.at_ 4 _ rfl
    have z5 := HZ1.out.at_ 5 _ rfl
    have z6 := HZ1.out.at_ 6 _ rfl
    have f0 := HZ1.out.free 0
    have f1 := HZ1.out.free 1
    have f2 := HZ1.out.free 2
    have f3 := HZ1.out.free 3
    have f4 := HZ1.out.free 4
    have f5 := HZ1.out.free 5
    have f6 := HZ1.out.free 6
    have HR := Lib.hid (layC HZ1.out rfl u)
    have HCR := Lib.hid (HC1.out.kept (setL_grown [.int .i64 u.id, .string u.nm, .int .i64 u.dr, .int .i64 u.ah, .int .i64 u.be, .int .i64 u.sp, .int .i64 u.fu] W1 w.heap.size 0) (fun e => HNE.out e.symm) (fun i e => by have := Option.some.inj e; have := HC1.out.old; omega))
    have HGR := Lib.hid (grown_new HG1.out (setL_grown [.int .i64 u.id, .string u.nm, .int .i64 u.dr, .int .i64 u.ah, .int .i64 u.be, .int .i64 u.sp, .int .i64 u.fu] W1 w.heap.size 0) (Nat.le_refl _))
    have r0 := HR.out.at_ 0 _ rfl
    have r1 := HR.out.at_ 1 _ rfl
    have r2 := HR.out.at_ 2 _ rfl
    have r3 := HR.out.at_ 3 _ rfl
    have r4 := HR.out.at_ 4 _ rfl
    have r5 := HR.out.at_ 5 _ rfl
    have r6 := HR.out.at_ 6 _ rfl
    simp only [setL] at r0 r1 r2 r3 r4 r5 r6
    go_wp2_with fail
    refine bodyPost_ret (v := .agg #[.int .i64 u.id, .string u.nm, .int .i64 u.dr, .int .i64 u.ah, .int .i64 u.be, .int .i64 u.sp, .int .i64 u.fu]) (by simp [results, Tryd.results20, go_sem, r0, r1, r2, r3, r4, r5, r6]) rfl ⟨u, _, by omega, by omega, HSu.out, rfl, HCR.out, HGR.out⟩
  have hq6' : ((q : Int) == 6) = false := beq_eq_false_iff_ne.2 (by omega)
  go_upto_region 17 with fail
  have a0 := HB8.out.at_ 0 _ rfl
  have a1 := HB8.out.at_ 1 _ rfl
  have a2 := HB8.out.at_ 2 _ rfl
  have a3 := HB8.out.at_ 3 _ rfl
  have a4 := HB8.out.at_ 4 _ rfl
  have a5 := HB8.out.at_ 5 _ rfl
  have a6 := HB8.out.at_ 6 _ rfl
  have z0 := HZ8.out.at_ 0 _ rfl
  have z1 := HZ8.out.at_ 1 _ rfl
  have z2 := HZ8.out.at_ 2 _ rfl
  have z3 := HZ8.out.at_ 3 _ rfl
  have z4 := HZ8.out.at_ 4 _ rfl
  have z5 := HZ8.out.at_ 5 _ rfl
  have z6 := HZ8.out.at_ 6 _ rfl
  have f0 := HZ8.out.free 0
  have f1 := HZ8.out.free 1
  have f2 := HZ8.out.free 2
  have f3 := HZ8.out.free 3
  have f4 := HZ8.out.free 4
  have f5 := HZ8.out.free 5
  have f6 := HZ8.out.free 6
  have HR := Lib.hid (layC HZ8.out rfl v)
  have HCR := Lib.hid (HC8.out.kept (setL_grown [.int .i64 v.id, .string v.nm, .int .i64 v.dr, .int .i64 v.ah, .int .i64 v.be, .int .i64 v.sp, .int .i64 v.fu] w8 w.heap.size 0) (fun e => HNE.out e.symm) (fun i e => by have := Option.some.inj e; have := HC8.out.old; omega))
  have HGR := Lib.hid (grown_new HG8.out (setL_grown [.int .i64 v.id, .string v.nm, .int .i64 v.dr, .int .i64 v.ah, .int .i64 v.be, .int .i64 v.sp, .int .i64 v.fu] w8 w.heap.size 0) (Nat.le_refl _))
  have r0 := HR.out.at_ 0 _ rfl
  have r1 := HR.out.at_ 1 _ rfl
  have r2 := HR.out.at_ 2 _ rfl
  have r3 := HR.out.at_ 3 _ rfl
  have r4 := HR.out.at_ 4 _ rfl
  have r5 := HR.out.at_ 5 _ rfl
  have r6 := HR.out.at_ 6 _ rfl
  simp only [setL] at r0 r1 r2 r3 r4 r5 r6
  go_wp2_with fail
  refine bodyPost_ret (v := .agg #[.int .i64 v.id, .string v.nm, .int .i64 v.dr, .int .i64 v.ah, .int .i64 v.be, .int .i64 v.sp, .int .i64 v.fu]) (by simp [results, Tryd.results20, go_sem, r0, r1, r2, r3, r4, r5, r6]) rfl ⟨v, _, by omega, by omega, HS.out, rfl, HCR.out, HGR.out⟩
end Go.Proofs.YtfffahkommbheaaDoor
