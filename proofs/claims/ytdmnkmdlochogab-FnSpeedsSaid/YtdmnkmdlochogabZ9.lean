/-
  Casts within a bound: contracts of SameLayers of spec and impl over this translation. Conditions: stated at each theorem.
-/
import Derived.Test.YtdmnkmdlochogabZc
namespace Go.Proofs.Ytdmnkmdlochogab
open Go.RowKit
set_option linter.unusedVariables false

theorem allK_bad {α : Type} (p : α → Bool) {l : List α} {k : Nat} {x : α} (h : l[k]? = some x) (hp : p x = false) : l.all p = false :=
  List.all_eq_false.2 ⟨x, List.mem_of_getElem? h, by simp [hp]⟩
theorem allK_snoc {α : Type} (p : α → Bool) {l : List α} {k : Nat} {x : α} (h : l[k]? = some x) : (l.take (k + 1)).all p = ((l.take k).all p && p x) := by
  obtain ⟨hk, rfl⟩ := List.getElem?_eq_some_iff.1 h
  rw [List.take_succ_eq_append_getElem hk, List.all_append]
  simp
theorem app_dep {a b : List (Int × Int)} (ha : Lays a) (hb : Lays b) {k : Nat} {x y : Int} (h : (a ++ b)[k]? = some (x, y)) : 0 ≤ x := by
  rcases Nat.lt_or_ge k a.length with q | q
  · rw [List.getElem?_append_left q] at h
    have := ha.dep k q
    rw [depAt_at h] at this; exact this.1
  · rw [List.getElem?_append_right q] at h
    have := hb.dep (k - a.length) (List.getElem?_eq_some_iff.1 h).1
    rw [depAt_at h] at this; exact this.1
def samP (a b : List (Int × Int)) (w : Int) (p : Int × Int) : Bool := inB (spOf a p.1 - spOf b p.1) (-w) w
theorem samB_all (a b : List (Int × Int)) (w : Int) : samB a b w = (a ++ b).all (samP a b w) := rfl
def slOk (u v : KC) (w : Int) : Bool := castB u && castB v && inB w 0 2000
def slV (u v : KC) (w : Int) : Bool := slOk u v w && samB u.l v.l w
def SamePost (u v : KC) (d : Int) (w : World) (e : Ending) (w' : World) : Prop := e = .returned (.tuple #[.bool (slV u v d), .bool (slOk u v d)]) ∧ Below w.heap.size w w'
theorem sl_no {u v : KC} {d : Int} (h : slOk u v d = false) : Ending.returned (.tuple #[.bool false, .bool false]) = .returned (.tuple #[.bool (slV u v d), .bool (slOk u v d)]) := by unfold slV; rw [h]; rfl
theorem sl_yes {u v : KC} {d : Int} {r : Bool} (h : slOk u v d = true) (k : samB u.l v.l d = r) : Ending.returned (.tuple #[.bool r, .bool true]) = .returned (.tuple #[.bool (slV u v d), .bool (slOk u v d)]) := by unfold slV; rw [h, k]; rfl
theorem concatK_v (p : Nat) (A1 A2 : Option Addr) (l1 l2 S : List (Int × Int)) (c1 c2 cp : Nat) (w : World) (hS : l1 ++ l2 = S) (h0 : w.cell? ⟨p, 0, none⟩ = some (.slice A1 l1.length c1)) (h1 : w.cell? ⟨p, 1, none⟩ = some (.slice A2 l2.length c2))
    (hs1 : Spots w w.heap.size A1 l1.length l1) (hs2 : Spots w w.heap.size A2 l2.length l2) (hn1 : l1.length ≤ 8) (hn2 : l2.length ≤ 8) (hp1 : 0 < l1.length) (hp2 : 0 < l2.length) :
    Calls Try.prog 134 #[.slice (some ⟨p, 0, none⟩) 2 cp] w (CatK S w) := hS ▸ concatK_any p A1 A2 l1 l2 c1 c2 cp w h0 h1 hs1 hs2 hn1 hn2 hp1 hp2
theorem wpOp_of_list {P : Program} {ops : Array Oper} {Q : Exit → Act → World → Prop} {K : Act → World → Prop} {i : Nat} {o : Oper} {a : Act} {w : World} (ho : ops[i]? = some o) (h : wpList P ops (Exit.then K Q) [o] a w) : wpOp P ops Q i K a w := by
  unfold wpOp
  rw [ho]
  simp only [wpList] at h ⊢
  by_cases hw : Region.wanted o (yielded ops a.tmps) = true
  · rw [if_pos hw] at h ⊢
    rcases h with h | h
    · refine .inl ?_
      unfold Oper.wp at h ⊢
      generalize (execOp a.eval o).run P w = r at h ⊢
      cases r with
      | ok x w' =>
        cases x <;> simp only [Oper.upon] at h ⊢
        case value v => exact h
        case skip => exact h
        case defer d => exact h
        case enter f args => exact Calls.mono h (fun e w'' he => by cases e <;> exact he)
        case row row args => exact Rows.mono h (fun _ _ he => he)
      | halt x w' => cases x <;> simp only [Oper.upon] at h ⊢ <;> exact h
    · exact .inr h
  · rw [if_neg hw] at h ⊢
    exact h
set_option maxRecDepth 20000 in
set_option maxHeartbeats 3200000 in
theorem same_impl (ida tma xa ya idb tmb xb yb d : Int) (A B : Option Addr) (na ca nb cb : Nat) (la lb : List (Int × Int)) (w : World) (hsa : Spots w w.heap.size A na la) (hsb : Spots w w.heap.size B nb lb) (hma : na ≤ maxLen) (hmb : nb ≤ maxLen) :
    Calls Try.prog 64 #[.agg #[.int .i64 ida, .int .i64 tma, .int .i64 xa, .int .i64 ya, .slice A na ca], .agg #[.int .i64 idb, .int .i64 tmb, .int .i64 xb, .int .i64 yb, .slice B nb cb], .int .i64 d] w (SamePost ⟨ida, tma, xa, ya, la⟩ ⟨idb, tmb, xb, yb, lb⟩ d w) := by
  have HSa := Lib.hid hsa
  have HSb := Lib.hid hsb
  clear hsa hsb
  rcases h0 : castB ⟨ida, tma, xa, ya, la⟩ with _ | _
  · have HCa := Lib.hid h0
    have HR := Lib.hid (sl_no (u := ⟨ida, tma, xa, ya, la⟩) (v := ⟨idb, tmb, xb, yb, lb⟩) (d := d) (by unfold slOk; rw [h0]; simp))
    clear h0
    go_enter Try.func64, Try.ntmps64
    go_wp2_with fail
    refine (isC_v _ _ _ _ A na ca la _ HCa.out _ (spots_alloc (spots_alloc HSa.out _) _) hma).mono ?_
    rintro e w1 ⟨rfl, hb⟩
    have HX := Lib.hid (box2 hb)
    clear hb
    go_wp2_with fail
    go_ret2
    exact ⟨HR.out, HX.out.1⟩
  have HCa := Lib.hid h0
  rcases h1 : castB ⟨idb, tmb, xb, yb, lb⟩ with _ | _
  · have HCb := Lib.hid h1
    have HR := Lib.hid (sl_no (u := ⟨ida, tma, xa, ya, la⟩) (v := ⟨idb, tmb, xb, yb, lb⟩) (d := d) (by unfold slOk; rw [h1]; simp))
    clear h1
    go_enter Try.func64, Try.ntmps64
    go_wp2_with fail
    refine (isC_v _ _ _ _ A na ca la _ HCa.out _ (spots_alloc (spots_alloc HSa.out _) _) hma).mono ?_
    rintro e w1 ⟨rfl, hb⟩
    have HX := Lib.hid (box2 hb)
    clear hb
    have b0 := HX.out.2.2.at_ 0 _ rfl
    have b1 := HX.out.2.2.at_ 1 _ rfl
    have b2 := HX.out.2.2.at_ 2 _ rfl
    have b3 := HX.out.2.2.at_ 3 _ rfl
    have b4 := HX.out.2.2.at_ 4 _ rfl
    go_wp2_with fail
    refine (isC_v _ _ _ _ B nb cb lb _ HCb.out _ (spots_at HSb.out HX.out.1) hmb).mono ?_
    rintro e w2 ⟨rfl, hb⟩
    have HB2 := Lib.hid (bthen HX.out.1 hb HX.out.1.size)
    have HXa := Lib.hid (HX.out.2.1.next hb)
    have HXb := Lib.hid (HX.out.2.2.next hb)
    clear hb b0 b1 b2 b3 b4
    go_wp2_with fail
    go_ret2
    exact ⟨HR.out, HB2.out⟩
  have HCb := Lib.hid h1
  rcases h2 : inB d 0 2000 with _ | _
  · have HD := Lib.hid h2
    have HR := Lib.hid (sl_no (u := ⟨ida, tma, xa, ya, la⟩) (v := ⟨idb, tmb, xb, yb, lb⟩) (d := d) (by unfold slOk; rw [h2]; simp))
    clear h2
    go_enter Try.func64, Try.ntmps64
    go_wp2_with fail
    refine (isC_v _ _ _ _ A na ca la _ HCa.out _ (spots_alloc (spots_alloc HSa.out _) _) hma).mono ?_
    rintro e w1 ⟨rfl, hb⟩
    have HX := Lib.hid (box2 hb)
    clear hb
    have b0 := HX.out.2.2.at_ 0 _ rfl
    have b1 := HX.out.2.2.at_ 1 _ rfl
    have b2 := HX.out.2.2.at_ 2 _ rfl
    have b3 := HX.out.2.2.at_ 3 _ rfl
    have b4 := HX.out.2.2.at_ 4 _ rfl
    go_wp2_with fail
    refine (isC_v _ _ _ _ B nb cb lb _ HCb.out _ (spots_at HSb.out HX.out.1) hmb).mono ?_
    rintro e w2 ⟨rfl, hb⟩
    have HB2 := Lib.hid (bthen HX.out.1 hb HX.out.1.size)
    have HXa := Lib.hid (HX.out.2.1.next hb)
    have HXb := Lib.hid (HX.out.2.2.next hb)
    clear hb b0 b1 b2 b3 b4
    go_wp2_with fail
    refine (within_v _ _ _ _ HD.out _).mono ?_
    rintro e w' ⟨rfl, rfl⟩
    go_wp2_with fail
    go_ret2
    exact ⟨HR.out, HB2.out⟩
  have HD := Lib.hid h2
  have HOK : Hid (slOk ⟨ida, tma, xa, ya, la⟩ ⟨idb, tmb, xb, yb, lb⟩ d = true) := by unfold Hid slOk; rw [h0, h1, h2]; rfl
  have hla := castB_lays h0
  have hlb := castB_lays h1
  have hdd := inB_yes h2
  obtain ⟨hd1, hd2⟩ := hdd
  simp only at hla hlb
  have a8 := hla.max
  have b8 := hlb.max
  have a1 := hla.one
  have b1 := hlb.one
  obtain rfl := HSa.out.1
  obtain rfl := HSb.out.1
  clear h0 h1 h2
  have HN1 := Lib.hid (And.intro a1 b1)
  clear a1 b1
  obtain ⟨S, hS⟩ : ∃ S, la ++ lb = S := ⟨_, rfl⟩
  have hSl : S.length = la.length + lb.length := by rw [← hS, List.length_append]
  have hS16 : S.length ≤ 16 := by omega
  have HSS := Lib.hid hS
  have HSL := Lib.hid hSl
  clear hS hSl
  go_enter Try.func64, Try.ntmps64
  go_wp2_with fail
  refine (isC_v _ _ _ _ A _ ca la _ HCa.out _ (spots_alloc (spots_alloc HSa.out _) _) hma).mono ?_
  rintro e w1 ⟨rfl, hb⟩
  have HX := Lib.hid (box2 hb)
  clear hb
  have b0 := HX.out.2.2.at_ 0 _ rfl
  have b1 := HX.out.2.2.at_ 1 _ rfl
  have b2 := HX.out.2.2.at_ 2 _ rfl
  have b3 := HX.out.2.2.at_ 3 _ rfl
  have b4 := HX.out.2.2.at_ 4 _ rfl
  go_wp2_with fail
  refine (isC_v _ _ _ _ B _ cb lb _ HCb.out _ (spots_at HSb.out HX.out.1) hmb).mono ?_
  rintro e w2 ⟨rfl, hb⟩
  have HB2 := Lib.hid (bthen HX.out.1 hb HX.out.1.size)
  have HXa := Lib.hid (HX.out.2.1.next hb)
  have HXb := Lib.hid (HX.out.2.2.next hb)
  clear hb b0 b1 b2 b3 b4
  go_wp2_with fail
  refine (within_v _ _ _ _ HD.out _).mono ?_
  rintro e w' ⟨rfl, rfl⟩
  have a4 := HXa.out.at_ 4 _ rfl
  have b4 := HXb.out.at_ 4 _ rfl
  go_wp2_with fail
  have HV := Lib.hid (box1 (w := w2) (cs := #[.slice A la.length ca, .slice B lb.length cb]) (T := 62) (Below.refl _ _))
  refine (concatK_v w2.heap.size A B la lb S ca cb _ _ HSS.out (HV.out.2.at_ 0 _ rfl) (HV.out.2.at_ 1 _ rfl) (spots_at HSa.out (bthen HB2.out HV.out.1 HB2.out.size)) (spots_at HSb.out (bthen HB2.out HV.out.1 HB2.out.size)) a8 b8 (by have := HN1.out; omega) (by have := HN1.out; omega)).mono ?_
  rintro e w3 ⟨C, cc, rfl, hC, hb⟩
  have HC := Lib.hid hC
  have HB3 := Lib.hid (bthen HB2.out (bthen HV.out.1 hb HV.out.1.size) HB2.out.size)
  have HXa3 := Lib.hid (HXa.out.next (bthen HV.out.1 hb HV.out.1.size))
  have HXb3 := Lib.hid (HXb.out.next (bthen HV.out.1 hb HV.out.1.size))
  clear hb hC a4 b4
  go_wp2_with fail
  go_loopw [30] (fun i wr => ∃ k : Nat, k ≤ S.length ∧ i = .int .i64 k ∧ Hid ((S.take k).all (samP la lb d) = true) ∧ Hid (Below w3.heap.size w3 wr)) (fun i _ => S.length - (intOf i).toNat)
  case atStart => exact ⟨0, Nat.zero_le _, rfl, by simp [Hid], Lib.hid (Below.refl _ _)⟩
  case round =>
    obtain ⟨k, hk, rfl, hA, hB⟩ := hrel
    have HBW := Lib.hid (bthen HB3.out hB.out HB3.out.size)
    by_cases hlt : k < S.length
    · obtain ⟨b0, o0, x, y, rfl, hb0, hl0, c0, c1⟩ := (spots_at HC.out hB.out).2 k hlt
      have hx0 : 0 ≤ x := app_dep hla hlb (by rw [HSS.out]; exact hl0)
      have HK := Lib.hid hl0
      obtain ⟨sa, hsa⟩ : ∃ s, spOf la x = s := ⟨_, rfl⟩
      obtain ⟨sb, hsb⟩ : ∃ s, spOf lb x = s := ⟨_, rfl⟩
      have hba := spOf_bd hla hx0
      have hbb := spOf_bd hlb hx0
      rw [hsa] at hba
      rw [hsb] at hbb
      obtain ⟨hba1, hba2⟩ := hba
      obtain ⟨hbb1, hbb2⟩ := hbb
      have HVa := Lib.hid hsa
      have HVb := Lib.hid hsb
      have HPP : Hid (samP la lb d (x, y) = inB (sa - sb) (-d) d) := by unfold Hid samP; rw [hsa, hsb]
      have HXa4 := Lib.hid (HXa3.out.next hB.out)
      have HXb4 := Lib.hid (HXb3.out.next hB.out)
      clear hl0 hsa hsb
      obtain ⟨W0, hW0⟩ : ∃ W0, W0 = wr.alloc (.cells #[.int .i64 x, .int .i64 y] 140) := ⟨_, rfl⟩
      have HW : Hid (Below wr.heap.size wr W0 ∧ Has W0 wr.heap.size [.int .i64 x, .int .i64 y]) := by rw [hW0]; exact box1 (Below.refl _ _)
      have HB0 := Lib.hid (bthen hB.out HW.out.1 hB.out.size)
      have a4 := (HXa4.out.next HW.out.1).at_ 4 _ rfl
      have b4 := (HXb4.out.next HW.out.1).at_ 4 _ rfl
      have e0 := HW.out.2.at_ 0 _ rfl
      have HSa0 := Lib.hid (spots_at HSa.out (bthen HBW.out HW.out.1 HBW.out.size))
      have HSb0 := Lib.hid (spots_at HSb.out (bthen HBW.out HW.out.1 HBW.out.size))
      have HE := Lib.hid hW0
      clear hW0
      go_wp2_with fail
      rw [← HE.out]
      clear c0 c1
      rcases hin : inB (sa - sb) (-d) d with _ | _
      · have HIN := Lib.hid hin
        have HR := Lib.hid (sl_yes (u := ⟨ida, tma, xa, ya, la⟩) (v := ⟨idb, tmb, xb, yb, lb⟩) HOK.out (show samB la lb d = false by rw [samB_all, HSS.out]; exact allK_bad _ HK.out (by rw [HPP.out]; exact hin)))
        clear hin
        have lc0 := lcell (a4)
        have lc1 := lcell (b4)
        have lc2 := lcell (e0)
        refine region_later (W := W0) (by kernel_rfl) (by kernel_rfl) (Below.refl _ _) ?_
        repeat (go_big_quiet_step (((first | (go_at_call 135; exact later_call (speed_impl _ _ _ la x sa HVa.out _ (spots_more HSa0.out (Later.below _)) hla hx0)) | (go_at_call 135; exact later_call (speed_impl _ _ _ lb x sb HVb.out _ (spots_more HSb0.out (Later.below _)) hlb hx0)) | (go_at_call 114; exact later_same (within_v _ _ _ _ HIN.out _))))))
        refine wpQuiet_nil ?_
        intro W2 hW1
        have HL : Hid (Below W0.heap.size W0 W2) := by obtain ⟨x, rfl⟩ := hW1; exact Lib.hid x.below
        clear hW1 lc0 lc1 lc2
        have HT2 := Lib.hid (bthen HB3.out (bthen HB0.out HL.out HB0.out.size) HB3.out.size)
        go_wp2_with fail
        go_ret2
        exact ⟨HR.out, HT2.out⟩
      · have HIN := Lib.hid hin
        have HA2 : Hid ((S.take (k + 1)).all (samP la lb d) = true) := by unfold Hid; rw [allK_snoc _ HK.out, hA.out, HPP.out, hin]; rfl
        clear hin
        have lc0 := lcell (a4)
        have lc1 := lcell (b4)
        have lc2 := lcell (e0)
        refine region_later (W := W0) (by kernel_rfl) (by kernel_rfl) (Below.refl _ _) ?_
        repeat (go_big_quiet_step (((first | (go_at_call 135; exact later_call (speed_impl _ _ _ la x sa HVa.out _ (spots_more HSa0.out (Later.below _)) hla hx0)) | (go_at_call 135; exact later_call (speed_impl _ _ _ lb x sb HVb.out _ (spots_more HSb0.out (Later.below _)) hlb hx0)) | (go_at_call 114; exact later_same (within_v _ _ _ _ HIN.out _))))))
        refine wpQuiet_nil ?_
        intro W2 hW1
        have HL : Hid (Below W0.heap.size W0 W2) := by obtain ⟨x, rfl⟩ := hW1; exact Lib.hid x.below
        clear hW1 lc0 lc1 lc2
        have HT2 := Lib.hid (bthen HB0.out HL.out HB0.out.size)
        go_wp2_with fail
        go_roundw
        case rel => exact ⟨k + 1, by omega, by go_num, HA2, HT2⟩
        case measure => simp [intOf]; omega
    · obtain rfl : k = S.length := by omega
      have HR := Lib.hid (sl_yes (u := ⟨ida, tma, xa, ya, la⟩) (v := ⟨idb, tmb, xb, yb, lb⟩) HOK.out (show samB la lb d = true by rw [samB_all, HSS.out]; have := hA.out; rwa [List.take_length] at this))
      go_wp2_with fail
      go_ret2
      exact ⟨HR.out, HBW.out⟩
set_option maxRecDepth 20000 in
set_option maxHeartbeats 3200000 in
theorem same_spec (ida tma xa ya idb tmb xb yb d : Int) (A B : Option Addr) (na ca nb cb : Nat) (la lb : List (Int × Int)) (w : World) (hsa : Spots w w.heap.size A na la) (hsb : Spots w w.heap.size B nb lb) (hma : na ≤ maxLen) (hmb : nb ≤ maxLen) :
    Calls Try.prog 65 #[.agg #[.int .i64 ida, .int .i64 tma, .int .i64 xa, .int .i64 ya, .slice A na ca], .agg #[.int .i64 idb, .int .i64 tmb, .int .i64 xb, .int .i64 yb, .slice B nb cb], .int .i64 d] w (SamePost ⟨ida, tma, xa, ya, la⟩ ⟨idb, tmb, xb, yb, lb⟩ d w) := by
  have HSa := Lib.hid hsa
  have HSb := Lib.hid hsb
  clear hsa hsb
  obtain ⟨i0, hi, hz0, hz1, hz2⟩ := info_parts infoLayer2
  have HI := Lib.hid (And.intro hi (And.intro hz0 (And.intro hz1 hz2)))
  clear hi hz0 hz1 hz2
  rcases h0 : castB ⟨ida, tma, xa, ya, la⟩ with _ | _
  · have HCa := Lib.hid h0
    have HR := Lib.hid (sl_no (u := ⟨ida, tma, xa, ya, la⟩) (v := ⟨idb, tmb, xb, yb, lb⟩) (d := d) (by unfold slOk; rw [h0]; simp))
    clear h0
    go_enter Try.func65, Try.ntmps65
    go_wp2_with fail
    refine (one_v _ _ _ _ A na ca la _ HCa.out _ (spots_alloc (spots_alloc HSa.out _) _) hma).mono ?_
    rintro e w1 ⟨rfl, hb⟩
    have HX := Lib.hid (box2 hb)
    clear hb
    go_wp2_with fail
    go_ret2
    exact ⟨HR.out, HX.out.1⟩
  have HCa := Lib.hid h0
  rcases h1 : castB ⟨idb, tmb, xb, yb, lb⟩ with _ | _
  · have HCb := Lib.hid h1
    have HR := Lib.hid (sl_no (u := ⟨ida, tma, xa, ya, la⟩) (v := ⟨idb, tmb, xb, yb, lb⟩) (d := d) (by unfold slOk; rw [h1]; simp))
    clear h1
    go_enter Try.func65, Try.ntmps65
    go_wp2_with fail
    refine (one_v _ _ _ _ A na ca la _ HCa.out _ (spots_alloc (spots_alloc HSa.out _) _) hma).mono ?_
    rintro e w1 ⟨rfl, hb⟩
    have HX := Lib.hid (box2 hb)
    clear hb
    have b0 := HX.out.2.2.at_ 0 _ rfl
    have b1 := HX.out.2.2.at_ 1 _ rfl
    have b2 := HX.out.2.2.at_ 2 _ rfl
    have b3 := HX.out.2.2.at_ 3 _ rfl
    have b4 := HX.out.2.2.at_ 4 _ rfl
    go_wp2_with fail
    refine (one_v _ _ _ _ B nb cb lb _ HCb.out _ (spots_at HSb.out HX.out.1) hmb).mono ?_
    rintro e w2 ⟨rfl, hb⟩
    have HB2 := Lib.hid (bthen HX.out.1 hb HX.out.1.size)
    have HXa := Lib.hid (HX.out.2.1.next hb)
    have HXb := Lib.hid (HX.out.2.2.next hb)
    clear hb b0 b1 b2 b3 b4
    go_wp2_with fail
    go_ret2
    exact ⟨HR.out, HB2.out⟩
  have HCb := Lib.hid h1
  rcases h2 : inB d 0 2000 with _ | _
  · have HD := Lib.hid h2
    have HR := Lib.hid (sl_no (u := ⟨ida, tma, xa, ya, la⟩) (v := ⟨idb, tmb, xb, yb, lb⟩) (d := d) (by unfold slOk; rw [h2]; simp))
    clear h2
    go_enter Try.func65, Try.ntmps65
    go_wp2_with fail
    refine (one_v _ _ _ _ A na ca la _ HCa.out _ (spots_alloc (spots_alloc HSa.out _) _) hma).mono ?_
    rintro e w1 ⟨rfl, hb⟩
    have HX := Lib.hid (box2 hb)
    clear hb
    have b0 := HX.out.2.2.at_ 0 _ rfl
    have b1 := HX.out.2.2.at_ 1 _ rfl
    have b2 := HX.out.2.2.at_ 2 _ rfl
    have b3 := HX.out.2.2.at_ 3 _ rfl
    have b4 := HX.out.2.2.at_ 4 _ rfl
    go_wp2_with fail
    refine (one_v _ _ _ _ B nb cb lb _ HCb.out _ (spots_at HSb.out HX.out.1) hmb).mono ?_
    rintro e w2 ⟨rfl, hb⟩
    have HB2 := Lib.hid (bthen HX.out.1 hb HX.out.1.size)
    have HXa := Lib.hid (HX.out.2.1.next hb)
    have HXb := Lib.hid (HX.out.2.2.next hb)
    clear hb b0 b1 b2 b3 b4
    go_wp2_with fail
    refine (l1In_v _ _ _ _ HD.out _).mono ?_
    rintro e w' ⟨rfl, rfl⟩
    go_wp2_with fail
    go_ret2
    exact ⟨HR.out, HB2.out⟩
  have HD := Lib.hid h2
  have HOK : Hid (slOk ⟨ida, tma, xa, ya, la⟩ ⟨idb, tmb, xb, yb, lb⟩ d = true) := by unfold Hid slOk; rw [h0, h1, h2]; rfl
  have hla := castB_lays h0
  have hlb := castB_lays h1
  have hdd := inB_yes h2
  obtain ⟨hd1, hd2⟩ := hdd
  simp only at hla hlb
  have a8 := hla.max
  have b8 := hlb.max
  have a1 := hla.one
  have b1 := hlb.one
  obtain rfl := HSa.out.1
  obtain rfl := HSb.out.1
  clear h0 h1 h2
  have HN1 := Lib.hid (And.intro a1 b1)
  clear a1 b1
  obtain ⟨S, hS⟩ : ∃ S, la ++ lb = S := ⟨_, rfl⟩
  have hSl : S.length = la.length + lb.length := by rw [← hS, List.length_append]
  have hS16 : S.length ≤ 16 := by omega
  have HSS := Lib.hid hS
  have HSL := Lib.hid hSl
  clear hS hSl
  go_enter Try.func65, Try.ntmps65
  go_wp2_with fail
  refine (one_v _ _ _ _ A _ ca la _ HCa.out _ (spots_alloc (spots_alloc HSa.out _) _) hma).mono ?_
  rintro e w1 ⟨rfl, hb⟩
  have HX := Lib.hid (box2 hb)
  clear hb
  have b0 := HX.out.2.2.at_ 0 _ rfl
  have b1 := HX.out.2.2.at_ 1 _ rfl
  have b2 := HX.out.2.2.at_ 2 _ rfl
  have b3 := HX.out.2.2.at_ 3 _ rfl
  have b4 := HX.out.2.2.at_ 4 _ rfl
  go_wp2_with fail
  refine (one_v _ _ _ _ B _ cb lb _ HCb.out _ (spots_at HSb.out HX.out.1) hmb).mono ?_
  rintro e w2 ⟨rfl, hb⟩
  have HB2 := Lib.hid (bthen HX.out.1 hb HX.out.1.size)
  have HXa := Lib.hid (HX.out.2.1.next hb)
  have HXb := Lib.hid (HX.out.2.2.next hb)
  clear hb b0 b1 b2 b3 b4
  go_wp2_with fail
  refine (l1In_v _ _ _ _ HD.out _).mono ?_
  rintro e w' ⟨rfl, rfl⟩
  have a4 := HXa.out.at_ 4 _ rfl
  have b4 := HXb.out.at_ 4 _ rfl
  go_wp2_with fail
  have lc0 := lcell a4
  have lc1 := lcell b4
  refine region_perm (W := w2) 7 [1, 2, 4, 5] [0, 3, 6] (by kernel_rfl) (by kernel_rfl) (Below.refl _ _) (fun d _ _ _ _ h => by cases d <;> exact h) ?_
  simp only [picks, List.getElem?_cons_succ, List.getElem?_cons_zero, List.drop_succ_cons, List.drop_zero]
  repeat (go_big_quiet_step (fail))
  refine wpQuiet_nil ?_
  intro W3 hW1
  have HL : Hid (Below w2.heap.size w2 W3) := by obtain ⟨x, rfl⟩ := hW1; exact Lib.hid x.below
  clear hW1 lc0 lc1 a4 b4
  simp only [wpMem]
  have HK0 := Lib.hid (col_start (w := w2) 140 2 HL.out)
  refine wpOp_step rfl (fun K hK => ?_)
  rw [if_pos (by rfl)]
  go_simp
  refine hK _ _ ⟨⟨⟨_, HK0.out.2⟩, rfl⟩, ?_⟩
  clear hK K
  obtain ⟨bu, ou, heu, hcs⟩ := spots_part (spots_at HSa.out (bthen HB2.out HK0.out.2 HB2.out.size)) (by have := HN1.out; omega)
  have HAu := Lib.hid hcs
  clear hcs
  subst heu
  refine wpOp_of_list rfl ?_
  refine wpList_append_own _ rfl _ _ 62 rfl w2.heap.size 140 i0 (.agg #[.int .i64 0, .int .i64 0]) 2 16 Try.underlying62 HI.out.1 HI.out.2.1 HI.out.2.2.1 HI.out.2.2.2 rfl (by decide) _ _ _ rfl HK0.out.1 ⟨bu, ou, none⟩ la.length ca (cells2 la) rfl (cells2_len la) HAu.out (cells2_oneJ la) (by unfold maxLen; omega) (by omega) HK0.out.2.size ?_
  intro vu w4 hown' hgrow _
  have HK1 := Lib.hid (And.intro hown' (HK0.out.2.grown hgrow HK0.out.2.size (fun j hj => (HK0.out.1.lt j hj).1)))
  clear hown' hgrow
  obtain ⟨Ru, qu, rfl⟩ := own_slice HK1.out.1
  refine ⟨⟨⟨_, HK1.out.2⟩, rfl⟩, ?_⟩
  obtain ⟨bv, ov, hev, hcs⟩ := spots_part (spots_at HSb.out (bthen HB2.out HK1.out.2 HB2.out.size)) (by have := HN1.out; omega)
  have HAv := Lib.hid hcs
  clear hcs
  subst hev
  refine wpOp_of_list rfl ?_
  refine wpList_append_own _ rfl _ _ 62 rfl w2.heap.size 140 i0 (.agg #[.int .i64 0, .int .i64 0]) 2 16 Try.underlying62 HI.out.1 HI.out.2.1 HI.out.2.2.1 HI.out.2.2.2 rfl (by decide) _ _ _ rfl HK1.out.1 ⟨bv, ov, none⟩ lb.length cb (cells2 lb) rfl (cells2_len lb) HAv.out (cells2_oneJ lb) (by unfold maxLen; omega) (by omega) HK1.out.2.size ?_
  intro vv w5 hown' hgrow _
  have HK2 := Lib.hid (And.intro hown' (HK1.out.2.grown hgrow HK1.out.2.size (fun j hj => (HK1.out.1.lt j hj).1)))
  clear hown' hgrow
  obtain ⟨Rv, qv, rfl⟩ := own_slice HK2.out.1
  refine ⟨⟨⟨_, HK2.out.2⟩, rfl⟩, ?_⟩
  have hlen : 0 + la.length + lb.length = S.length := by have := HSL.out; omega
  have hk2 := HK2.out
  rw [hlen, List.nil_append, ← cells2_catJ, HSS.out] at hk2
  have HC : Hid (Spots w5 w5.heap.size Rv S.length S) := Lib.hid ((own2_of_row hk2.1 rfl).spots (Nat.le_refl _))
  have HB3 := Lib.hid (bthen HB2.out hk2.2 HB2.out.size)
  have HXa3 := Lib.hid (HXa.out.next hk2.2)
  have HXb3 := Lib.hid (HXb.out.next hk2.2)
  rw [hlen]
  clear hk2 hlen
  go_wp2_with fail
  go_loopw [9] (fun i wr => ∃ k : Nat, k ≤ S.length ∧ i = .int .i64 k ∧ Hid ((S.take k).all (samP la lb d) = true) ∧ Hid (Below w5.heap.size w5 wr)) (fun i _ => S.length - (intOf i).toNat)
  case atStart => exact ⟨0, Nat.zero_le _, rfl, by simp [Hid], Lib.hid (Below.refl _ _)⟩
  case round =>
    obtain ⟨k, hk, rfl, hA, hB⟩ := hrel
    have HBW := Lib.hid (bthen HB3.out hB.out HB3.out.size)
    by_cases hlt : k < S.length
    · obtain ⟨bz, oz, x, y, rfl, hbz, hl0, c0, c1⟩ := (spots_at HC.out hB.out).2 k hlt
      have hx0 : 0 ≤ x := app_dep hla hlb (by rw [HSS.out]; exact hl0)
      have HK := Lib.hid hl0
      obtain ⟨sa, hsa⟩ : ∃ s, spOf la x = s := ⟨_, rfl⟩
      obtain ⟨sb, hsb⟩ : ∃ s, spOf lb x = s := ⟨_, rfl⟩
      have hba := spOf_bd hla hx0
      have hbb := spOf_bd hlb hx0
      rw [hsa] at hba
      rw [hsb] at hbb
      obtain ⟨hba1, hba2⟩ := hba
      obtain ⟨hbb1, hbb2⟩ := hbb
      have HVa := Lib.hid hsa
      have HVb := Lib.hid hsb
      have HPP : Hid (samP la lb d (x, y) = inB (sa - sb) (-d) d) := by unfold Hid samP; rw [hsa, hsb]
      have HXa4 := Lib.hid (HXa3.out.next hB.out)
      have HXb4 := Lib.hid (HXb3.out.next hB.out)
      clear hl0 hsa hsb
      obtain ⟨W0, rfl⟩ : ∃ W : World, W = wr := ⟨_, rfl⟩
      have a0 := HXa4.out.at_ 0 _ rfl
      have a1 := HXa4.out.at_ 1 _ rfl
      have a2 := HXa4.out.at_ 2 _ rfl
      have a3 := HXa4.out.at_ 3 _ rfl
      have a4 := HXa4.out.at_ 4 _ rfl
      have b0 := HXb4.out.at_ 0 _ rfl
      have b1 := HXb4.out.at_ 1 _ rfl
      have b2 := HXb4.out.at_ 2 _ rfl
      have b3 := HXb4.out.at_ 3 _ rfl
      have b4 := HXb4.out.at_ 4 _ rfl
      have HSa0 := Lib.hid (spots_at HSa.out HBW.out)
      have HSb0 := Lib.hid (spots_at HSb.out HBW.out)
      have hma := hma
      go_wp2_with fail
      rcases hin : inB (sa - sb) (-d) d with _ | _
      · have HIN := Lib.hid hin
        have HR := Lib.hid (sl_yes (u := ⟨ida, tma, xa, ya, la⟩) (v := ⟨idb, tmb, xb, yb, lb⟩) HOK.out (show samB la lb d = false by rw [samB_all, HSS.out]; exact allK_bad _ HK.out (by rw [HPP.out]; exact hin)))
        clear hin
        have lc0 := lcell (a0)
        have lc1 := lcell (a1)
        have lc2 := lcell (a2)
        have lc3 := lcell (a3)
        have lc4 := lcell (a4)
        have lc5 := lcell (b0)
        have lc6 := lcell (b1)
        have lc7 := lcell (b2)
        have lc8 := lcell (b3)
        have lc9 := lcell (b4)
        have lc10 := lcell (c0)
        refine region_later (W := W0) (by kernel_rfl) (by kernel_rfl) (Below.refl _ _) ?_
        repeat (go_big_quiet_step (((first | (go_at_call 136; exact later_call (speed_v _ _ _ _ x _ _ _ la sa HVa.out _ (spots_more HSa0.out (Later.below _)) hma)) | (go_at_call 136; exact later_call (speed_v _ _ _ _ x _ _ _ lb sb HVb.out _ (spots_more HSb0.out (Later.below _)) hmb)) | (go_at_call 89; exact later_same (l1In_v _ _ _ _ HIN.out _))))))
        refine wpQuiet_nil ?_
        intro W2 hW1
        have HL : Hid (Below W0.heap.size W0 W2) := by obtain ⟨x, rfl⟩ := hW1; exact Lib.hid x.below
        clear hW1 lc0 lc1 lc2 lc3 lc4 lc5 lc6 lc7 lc8 lc9 lc10
        have HT2 := Lib.hid (bthen HB3.out (bthen hB.out HL.out hB.out.size) HB3.out.size)
        go_wp2_with fail
        go_ret2
        exact ⟨HR.out, HT2.out⟩
      · have HIN := Lib.hid hin
        have HA2 : Hid ((S.take (k + 1)).all (samP la lb d) = true) := by unfold Hid; rw [allK_snoc _ HK.out, hA.out, HPP.out, hin]; rfl
        clear hin
        have lc0 := lcell (a0)
        have lc1 := lcell (a1)
        have lc2 := lcell (a2)
        have lc3 := lcell (a3)
        have lc4 := lcell (a4)
        have lc5 := lcell (b0)
        have lc6 := lcell (b1)
        have lc7 := lcell (b2)
        have lc8 := lcell (b3)
        have lc9 := lcell (b4)
        have lc10 := lcell (c0)
        refine region_later (W := W0) (by kernel_rfl) (by kernel_rfl) (Below.refl _ _) ?_
        repeat (go_big_quiet_step (((first | (go_at_call 136; exact later_call (speed_v _ _ _ _ x _ _ _ la sa HVa.out _ (spots_more HSa0.out (Later.below _)) hma)) | (go_at_call 136; exact later_call (speed_v _ _ _ _ x _ _ _ lb sb HVb.out _ (spots_more HSb0.out (Later.below _)) hmb)) | (go_at_call 89; exact later_same (l1In_v _ _ _ _ HIN.out _))))))
        refine wpQuiet_nil ?_
        intro W2 hW1
        have HL : Hid (Below W0.heap.size W0 W2) := by obtain ⟨x, rfl⟩ := hW1; exact Lib.hid x.below
        clear hW1 lc0 lc1 lc2 lc3 lc4 lc5 lc6 lc7 lc8 lc9 lc10
        have HT2 := Lib.hid (bthen hB.out HL.out hB.out.size)
        go_wp2_with fail
        go_roundw
        case rel => exact ⟨k + 1, by omega, by go_num, HA2, HT2⟩
        case measure => simp [intOf]; omega
    · obtain rfl : k = S.length := by omega
      have HR := Lib.hid (sl_yes (u := ⟨ida, tma, xa, ya, la⟩) (v := ⟨idb, tmb, xb, yb, lb⟩) HOK.out (show samB la lb d = true by rw [samB_all, HSS.out]; have := hA.out; rwa [List.take_length] at this))
      go_wp2_with fail
      go_ret2
      exact ⟨HR.out, HBW.out⟩
end Go.Proofs.Ytdmnkmdlochogab
