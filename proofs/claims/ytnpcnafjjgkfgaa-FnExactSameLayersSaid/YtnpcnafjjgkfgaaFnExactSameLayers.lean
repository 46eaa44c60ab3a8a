/-
  Proved here: for every two casts and number the law laws.FnExactSameLayers returns true (impl.SameLayers answers as spec.SameLayers and writes into no argument), and the arguments read afterwards as before.
  Conditions: none beyond the row's own.
-/
import Derived.Test.YtnpcnafjjgkfgaaZo
import Derived.Test.YtnpcnafjjgkfgaaZg
import Derived.Test.YtnpcnafjjgkfgaaZ9
namespace Go.Proofs.Ytnpcnafjjgkfgaa.fnExactSameLayers
open Go.Joins Go.ChangeShapes Go.WideShapes Go.ChangeAt Go.RowKit Go.Deep
set_option linter.unusedVariables false

/-! ### The walk: the Go text returns true, and nothing that was there has turned. -/
set_option maxRecDepth 20000 in
set_option maxHeartbeats 6400000 in
theorem walk (ida tma xa ya : Int) (A : Option Addr) (na ca : Nat) (la : List (Int × Int)) (idb tmb xb yb : Int) (B : Option Addr) (nb cb : Nat) (lb : List (Int × Int)) (d : Int) (w : World) (hsa : Spots w w.heap.size A na la) (hma : na ≤ maxLen) (hsb : Spots w w.heap.size B nb lb) (hmb : nb ≤ maxLen) :
    Calls Try.prog 13 #[.agg #[.int .i64 ida, .int .i64 tma, .int .i64 xa, .int .i64 ya, .slice A na ca], .agg #[.int .i64 idb, .int .i64 tmb, .int .i64 xb, .int .i64 yb, .slice B nb cb], .int .i64 d] w fun e w' => e = .returned (.bool true) ∧ Below w.heap.size w w' := by
  obtain rfl := hsa.1
  obtain rfl := hsb.1
  obtain ⟨V0, hV⟩ : ∃ V, V = (w.alloc (.cells #[.int .i64 ida, .int .i64 tma, .int .i64 xa, .int .i64 ya, .slice A la.length ca] 55)).alloc (.cells #[.int .i64 idb, .int .i64 tmb, .int .i64 xb, .int .i64 yb, .slice B lb.length cb] 55) := ⟨_, rfl⟩
  have HV0 : Hid (Below w.heap.size w V0 ∧ Has V0 w.heap.size [.int .i64 ida, .int .i64 tma, .int .i64 xa, .int .i64 ya, .slice A la.length ca] ∧ Has V0 (w.heap.size + 1) [.int .i64 idb, .int .i64 tmb, .int .i64 xb, .int .i64 yb, .slice B lb.length cb]) := by rw [hV]; exact box2 (Below.refl _ _)
  have HB0 := Lib.hid HV0.out.1
  have HXa := Lib.hid HV0.out.2.1
  have HXb := Lib.hid HV0.out.2.2
  have HE := Lib.hid hV
  clear hV
  by_cases h0 : (1048576 : Int) < la.length
  · go_enter Try.func13, Try.ntmps13
    go_wp2_with fail
    rw [← HE.out]
    refine (szK_neg _ _ _ _ A _ ca _ _ (by omega) (by omega) hma h0).mono ?_
    rintro e w1 ⟨rfl, hb⟩
    have HT := Lib.hid (bthen HB0.out hb HB0.out.size)
    clear hb
    go_wp2_with fail
    go_ret
    exact ⟨rfl, HT.out⟩
  have hlea : la.length ≤ 1048576 := by omega
  have hsz1 : 0 ≤ (1048576 : Int) - la.length := by omega
  by_cases h1 : (1048576 : Int) - la.length < lb.length
  · go_enter Try.func13, Try.ntmps13
    go_wp2_with fail
    rw [← HE.out]
    refine (szK_pos _ _ _ _ A _ ca _ _ (by omega) (by omega)).mono ?_
    rintro e w1 ⟨rfl, hb⟩
    have HT := Lib.hid (bthen HB0.out hb HB0.out.size)
    have HXb1 := Lib.hid (HXb.out.next hb)
    clear hb
    have q0 := HXb1.out.at_ 0 _ rfl
    have q1 := HXb1.out.at_ 1 _ rfl
    have q2 := HXb1.out.at_ 2 _ rfl
    have q3 := HXb1.out.at_ 3 _ rfl
    have q4 := HXb1.out.at_ 4 _ rfl
    go_wp2_with fail
    refine (szK_neg _ _ _ _ B _ cb _ _ (by omega) (by omega) hmb h1).mono ?_
    rintro e w2 ⟨rfl, hb⟩
    have HT2 := Lib.hid (bthen HT.out hb HT.out.size)
    clear hb
    go_wp2_with fail
    go_ret
    exact ⟨rfl, HT2.out⟩
  have hleb : lb.length ≤ 1048576 := by omega
  have hsz2 : 0 ≤ (1048576 : Int) - la.length - lb.length := by omega
  have HSa := Lib.hid hsa
  have HSb := Lib.hid hsb
  clear h0 h1 hsa hsb
  go_enter Try.func13, Try.ntmps13
  go_wp2_with fail
  rw [← HE.out]
  refine (szK_pos _ _ _ _ A _ ca _ _ (by omega) (by omega)).mono ?_
  rintro e w1 ⟨rfl, hb⟩
  have HB1 := Lib.hid (bthen HB0.out hb HB0.out.size)
  have HXa_1 := Lib.hid (HXa.out.next hb)
  have HXb_1 := Lib.hid (HXb.out.next hb)
  clear hb
  have q0 := HXb_1.out.at_ 0 _ rfl
  have q1 := HXb_1.out.at_ 1 _ rfl
  have q2 := HXb_1.out.at_ 2 _ rfl
  have q3 := HXb_1.out.at_ 3 _ rfl
  have q4 := HXb_1.out.at_ 4 _ rfl
  go_wp2_with fail
  refine (szK_pos _ _ _ _ B _ cb _ _ (by omega) (by omega)).mono ?_
  rintro e w2 ⟨rfl, hb⟩
  have HB2 := Lib.hid (bthen HB1.out hb HB1.out.size)
  have HXa_2 := Lib.hid (HXa_1.out.next hb)
  have HXb_2 := Lib.hid (HXb_1.out.next hb)
  clear hb
  clear q0 q1 q2 q3 q4
  have p0 := HXa_2.out.at_ 0 _ rfl
  have p1 := HXa_2.out.at_ 1 _ rfl
  have p2 := HXa_2.out.at_ 2 _ rfl
  have p3 := HXa_2.out.at_ 3 _ rfl
  have p4 := HXa_2.out.at_ 4 _ rfl
  have q0 := HXb_2.out.at_ 0 _ rfl
  have q1 := HXb_2.out.at_ 1 _ rfl
  have q2 := HXb_2.out.at_ 2 _ rfl
  have q3 := HXb_2.out.at_ 3 _ rfl
  have q4 := HXb_2.out.at_ 4 _ rfl
  go_wp2_with fail
  have lp0 := lcell p0
  have lq0 := lcell q0
  have lp1 := lcell p1
  have lq1 := lcell q1
  have lp2 := lcell p2
  have lq2 := lcell q2
  have lp3 := lcell p3
  have lq3 := lcell q3
  have lp4 := lcell p4
  have lq4 := lcell q4
  refine region_reads (W := w2) 10 8 [0, 2, 4] (by kernel_rfl) (by kernel_rfl) rfl (Below.refl _ _) (fun d _ _ _ _ h => by cases d <;> exact h) ?_
  simp only [picks, List.getElem?_cons_succ, List.getElem?_cons_zero]
  repeat (go_big_quiet_step (fail))
  refine wpQuiet_nil ?_
  intro W3 hW1
  have hb : Below w2.heap.size w2 W3 := by obtain ⟨x, rfl⟩ := hW1; exact x.below
  have HL0 := Lib.hid hb
  clear lp0 lq0 lp1 lq1 lp2 lq2 lp3 lq3 lp4 lq4
  clear p0 p1 p2 p3 p4 q0 q1 q2 q3 q4
  have HB3 := Lib.hid (bthen HB2.out hb HB2.out.size)
  have HXa_3 := Lib.hid (HXa_2.out.next hb)
  have HXb_3 := Lib.hid (HXb_2.out.next hb)
  clear hW1 hb
  refine wpAnyN_one (i := 1) (by kernel_rfl) ?_
  refine wpOp_step rfl (fun K hK => ?_)
  rw [if_pos (by rfl)]
  go_simp
  refine (toCast_any _ _ _ _ A _ ca la _ (spots_at HSa.out HB3.out) hlea).mono ?_
  rintro e w3 ⟨ga, rfl, hO, hb⟩
  have HL1 := Lib.hid (bthen HL0.out hb HL0.out.size)
  have HB4 := Lib.hid (bthen HB3.out hb HB3.out.size)
  have HXa_4 := Lib.hid (HXa_3.out.next hb)
  have HXb_4 := Lib.hid (HXb_3.out.next hb)
  have HSs := Lib.hid (hO.spots (Nat.le_refl _))
  clear hO
  refine hK _ _ ⟨⟨⟨_, HL1.out⟩, rfl⟩, ?_⟩
  clear hK K hb
  refine wpAnyN_one (i := 3) (by kernel_rfl) ?_
  refine wpOp_step rfl (fun K hK => ?_)
  rw [if_pos (by rfl)]
  go_simp
  refine (toCast_any _ _ _ _ B _ cb lb _ (spots_at HSb.out HB4.out) hleb).mono ?_
  rintro e w4 ⟨gb, rfl, hO, hb⟩
  have HL2 := Lib.hid (bthen HL1.out hb HL1.out.size)
  have HB5 := Lib.hid (bthen HB4.out hb HB4.out.size)
  have HXa_5 := Lib.hid (HXa_4.out.next hb)
  have HXb_5 := Lib.hid (HXb_4.out.next hb)
  have HSs_5 := Lib.hid (spots_more HSs.out hb)
  have HSt := Lib.hid (hO.spots (Nat.le_refl _))
  clear hO
  refine hK _ _ ⟨⟨⟨_, HL2.out⟩, rfl⟩, ?_⟩
  clear hK K hb
  refine wpAnyN_one (i := 5) (by kernel_rfl) ?_
  refine wpOp_step rfl (fun K hK => ?_)
  rw [if_pos (by rfl)]
  go_simp
  refine (same_spec _ _ _ _ _ _ _ _ d _ _ _ _ _ _ la lb _ HSs_5.out HSt.out hma hmb).mono ?_
  rintro e w5 ⟨rfl, hb⟩
  have HL3 := Lib.hid (bthen HL2.out hb HL2.out.size)
  have HB6 := Lib.hid (bthen HB5.out hb HB5.out.size)
  have HXa_6 := Lib.hid (HXa_5.out.next hb)
  have HXb_6 := Lib.hid (HXb_5.out.next hb)
  have HSs_6 := Lib.hid (spots_more HSs_5.out hb)
  have HSt_6 := Lib.hid (spots_more HSt.out hb)
  refine hK _ _ ⟨⟨⟨_, HL3.out⟩, rfl⟩, ?_⟩
  clear hK K hb
  refine wpAnyN_rest [6, 7, 8, 9, 10] rfl (by kernel_rfl) rfl (by kernel_rfl) HL3.out ?_
  simp only [picks, List.getElem?_cons_succ, List.getElem?_cons_zero]
  repeat (go_big_quiet_step (fail))
  refine wpQuiet_nil ?_
  intro W6 hW1
  have hb : Below w5.heap.size w5 W6 := by obtain ⟨x, rfl⟩ := hW1; exact x.below
  have HB7 := Lib.hid (bthen HB6.out hb HB6.out.size)
  have HXa_7 := Lib.hid (HXa_6.out.next hb)
  have HXb_7 := Lib.hid (HXb_6.out.next hb)
  clear hW1 hb
  have p0 := HXa_7.out.at_ 0 _ rfl
  have p1 := HXa_7.out.at_ 1 _ rfl
  have p2 := HXa_7.out.at_ 2 _ rfl
  have p3 := HXa_7.out.at_ 3 _ rfl
  have p4 := HXa_7.out.at_ 4 _ rfl
  go_wp2_with fail
  refine (toCast_any _ _ _ _ A _ ca la _ (spots_at HSa.out HB7.out) hlea).mono ?_
  rintro e w7 ⟨gx, rfl, hO, hb⟩
  have HB8 := Lib.hid (bthen HB7.out hb HB7.out.size)
  have HXa_8 := Lib.hid (HXa_7.out.next hb)
  have HXb_8 := Lib.hid (HXb_7.out.next hb)
  have HSx := Lib.hid (hO.spots (Nat.le_refl _))
  clear hO
  clear hb
  clear p0 p1 p2 p3 p4
  obtain ⟨V8, hV⟩ : ∃ W, W = w7.alloc (.cells #[.int .i64 ida, .int .i64 tma, .int .i64 xa, .int .i64 ya, .slice (some ⟨gx, 0, none⟩) la.length la.length] 28) := ⟨_, rfl⟩
  have HNx : Hid (Below w7.heap.size w7 V8 ∧ Has V8 w7.heap.size [.int .i64 ida, .int .i64 tma, .int .i64 xa, .int .i64 ya, .slice (some ⟨gx, 0, none⟩) la.length la.length]) := by rw [hV]; exact box1 (Below.refl _ _)
  have hb := HNx.out.1
  have HB9 := Lib.hid (bthen HB8.out hb HB8.out.size)
  have HXa_9 := Lib.hid (HXa_8.out.next hb)
  have HXb_9 := Lib.hid (HXb_8.out.next hb)
  have HSx_9 := Lib.hid (spots_more HSx.out hb)
  have HXx := Lib.hid HNx.out.2
  have HEx := Lib.hid hV
  clear hV hb
  have q0 := HXb_9.out.at_ 0 _ rfl
  have q1 := HXb_9.out.at_ 1 _ rfl
  have q2 := HXb_9.out.at_ 2 _ rfl
  have q3 := HXb_9.out.at_ 3 _ rfl
  have q4 := HXb_9.out.at_ 4 _ rfl
  rw [HEx.out] at q0 q1 q2 q3 q4
  go_wp2_with fail
  try rw [← HEx.out]
  refine (toCast_any _ _ _ _ B _ cb lb _ (spots_at HSb.out HB9.out) hleb).mono ?_
  rintro e w9 ⟨gy, rfl, hO, hb⟩
  have HB10 := Lib.hid (bthen HB9.out hb HB9.out.size)
  have HXa_10 := Lib.hid (HXa_9.out.next hb)
  have HXb_10 := Lib.hid (HXb_9.out.next hb)
  have HXx_10 := Lib.hid (HXx.out.next hb)
  have HSx_10 := Lib.hid (spots_more HSx_9.out hb)
  have HSy := Lib.hid (hO.spots (Nat.le_refl _))
  clear hO
  clear hb
  clear q0 q1 q2 q3 q4
  obtain ⟨V10, hV⟩ : ∃ W, W = w9.alloc (.cells #[.int .i64 idb, .int .i64 tmb, .int .i64 xb, .int .i64 yb, .slice (some ⟨gy, 0, none⟩) lb.length lb.length] 28) := ⟨_, rfl⟩
  have HNy : Hid (Below w9.heap.size w9 V10 ∧ Has V10 w9.heap.size [.int .i64 idb, .int .i64 tmb, .int .i64 xb, .int .i64 yb, .slice (some ⟨gy, 0, none⟩) lb.length lb.length]) := by rw [hV]; exact box1 (Below.refl _ _)
  have hb := HNy.out.1
  have HB11 := Lib.hid (bthen HB10.out hb HB10.out.size)
  have HXa_11 := Lib.hid (HXa_10.out.next hb)
  have HXb_11 := Lib.hid (HXb_10.out.next hb)
  have HXx_11 := Lib.hid (HXx_10.out.next hb)
  have HSx_11 := Lib.hid (spots_more HSx_10.out hb)
  have HSy_11 := Lib.hid (spots_more HSy.out hb)
  have HXy := Lib.hid HNy.out.2
  have HEy := Lib.hid hV
  clear hV hb
  have p0 := HXx_11.out.at_ 0 _ rfl
  have p1 := HXx_11.out.at_ 1 _ rfl
  have p2 := HXx_11.out.at_ 2 _ rfl
  have p3 := HXx_11.out.at_ 3 _ rfl
  have p4 := HXx_11.out.at_ 4 _ rfl
  have q0 := HXy.out.at_ 0 _ rfl
  have q1 := HXy.out.at_ 1 _ rfl
  have q2 := HXy.out.at_ 2 _ rfl
  have q3 := HXy.out.at_ 3 _ rfl
  have q4 := HXy.out.at_ 4 _ rfl
  rw [HEy.out] at p0 q0 p1 q1 p2 q2 p3 q3 p4 q4
  go_wp2_with fail
  try rw [← HEy.out]
  refine (same_impl _ _ _ _ _ _ _ _ d _ _ _ _ _ _ la lb _ HSx_11.out HSy_11.out hma hmb).mono ?_
  rintro e w11 ⟨rfl, hb⟩
  have HB12 := Lib.hid (bthen HB11.out hb HB11.out.size)
  have HXa_12 := Lib.hid (HXa_11.out.next hb)
  have HXb_12 := Lib.hid (HXb_11.out.next hb)
  have HXx_12 := Lib.hid (HXx_11.out.next hb)
  have HXy_12 := Lib.hid (HXy.out.next hb)
  have HSx_12 := Lib.hid (spots_more HSx_11.out hb)
  have HSy_12 := Lib.hid (spots_more HSy_11.out hb)
  clear hb
  clear p0 p1 p2 p3 p4 q0 q1 q2 q3 q4
  have p0 := HXx_12.out.at_ 0 _ rfl
  have p1 := HXx_12.out.at_ 1 _ rfl
  have p2 := HXx_12.out.at_ 2 _ rfl
  have p3 := HXx_12.out.at_ 3 _ rfl
  have p4 := HXx_12.out.at_ 4 _ rfl
  have q0 := HXa_12.out.at_ 0 _ rfl
  have q1 := HXa_12.out.at_ 1 _ rfl
  have q2 := HXa_12.out.at_ 2 _ rfl
  have q3 := HXa_12.out.at_ 3 _ rfl
  have q4 := HXa_12.out.at_ 4 _ rfl
  go_wp2_with fail
  have lp0 := lcell p0
  have lq0 := lcell q0
  have lp1 := lcell p1
  have lq1 := lcell q1
  have lp2 := lcell p2
  have lq2 := lcell q2
  have lp3 := lcell p3
  have lq3 := lcell q3
  have lp4 := lcell p4
  have lq4 := lcell q4
  refine region_perm (W := w11) 4 [0, 1] [2, 3] (by kernel_rfl) (by kernel_rfl) (Below.refl _ _) (fun d _ _ _ _ h => by cases d <;> exact h) ?_
  simp only [picks, List.getElem?_cons_succ, List.getElem?_cons_zero, List.drop_succ_cons, List.drop_zero]
  repeat (go_big_quiet_step (fail))
  refine wpQuiet_nil ?_
  intro W12 hW1
  have hb : Below w11.heap.size w11 W12 := by obtain ⟨x, rfl⟩ := hW1; exact x.below
  have HL0 := Lib.hid hb
  clear lp0 lq0 lp1 lq1 lp2 lq2 lp3 lq3 lp4 lq4
  clear p0 p1 p2 p3 p4 q0 q1 q2 q3 q4
  have HB13 := Lib.hid (bthen HB12.out hb HB12.out.size)
  have HXa_13 := Lib.hid (HXa_12.out.next hb)
  have HXb_13 := Lib.hid (HXb_12.out.next hb)
  have HXx_13 := Lib.hid (HXx_12.out.next hb)
  have HXy_13 := Lib.hid (HXy_12.out.next hb)
  have HSx_13 := Lib.hid (spots_more HSx_12.out hb)
  have HSy_13 := Lib.hid (spots_more HSy_12.out hb)
  clear hW1 hb
  simp only [wpMem]
  refine wpOp_step rfl (fun K hK => ?_)
  rw [if_pos (by rfl)]
  go_simp
  refine (toCast_any _ _ _ _ A _ ca la _ (spots_at HSa.out HB13.out) hlea).mono ?_
  rintro e w13 ⟨gw13, rfl, hO, hb⟩
  have HL1 := Lib.hid (bthen HL0.out hb HL0.out.size)
  have HB14 := Lib.hid (bthen HB13.out hb HB13.out.size)
  have HXa_14 := Lib.hid (HXa_13.out.next hb)
  have HXb_14 := Lib.hid (HXb_13.out.next hb)
  have HXx_14 := Lib.hid (HXx_13.out.next hb)
  have HXy_14 := Lib.hid (HXy_13.out.next hb)
  have HSx_14 := Lib.hid (spots_more HSx_13.out hb)
  have HSy_14 := Lib.hid (spots_more HSy_13.out hb)
  have HSza := Lib.hid (hO.spots (Nat.le_refl _))
  clear hO
  refine hK _ _ ⟨⟨⟨_, HL1.out⟩, rfl⟩, ?_⟩
  clear hK K hb
  refine wpOp_step rfl (fun K hK => ?_)
  rw [if_pos (by rfl)]
  go_simp
  refine (eqK_same _ _ _ _ _ _ _ _ _ la _ HSx_14.out HSza.out hma).mono ?_
  rintro e w14 ⟨rfl, hb⟩
  have HL2 := Lib.hid (bthen HL1.out hb HL1.out.size)
  have HB15 := Lib.hid (bthen HB14.out hb HB14.out.size)
  have HXa_15 := Lib.hid (HXa_14.out.next hb)
  have HXb_15 := Lib.hid (HXb_14.out.next hb)
  have HXx_15 := Lib.hid (HXx_14.out.next hb)
  have HXy_15 := Lib.hid (HXy_14.out.next hb)
  have HSx_15 := Lib.hid (spots_more HSx_14.out hb)
  have HSy_15 := Lib.hid (spots_more HSy_14.out hb)
  have HSza_15 := Lib.hid (spots_more HSza.out hb)
  refine hK _ _ ⟨⟨⟨_, HL2.out⟩, rfl⟩, ?_⟩
  clear hK K hb
  have p0 := HXy_15.out.at_ 0 _ rfl
  have p1 := HXy_15.out.at_ 1 _ rfl
  have p2 := HXy_15.out.at_ 2 _ rfl
  have p3 := HXy_15.out.at_ 3 _ rfl
  have p4 := HXy_15.out.at_ 4 _ rfl
  have q0 := HXb_15.out.at_ 0 _ rfl
  have q1 := HXb_15.out.at_ 1 _ rfl
  have q2 := HXb_15.out.at_ 2 _ rfl
  have q3 := HXb_15.out.at_ 3 _ rfl
  have q4 := HXb_15.out.at_ 4 _ rfl
  go_wp2_with fail
  have lp0 := lcell p0
  have lq0 := lcell q0
  have lp1 := lcell p1
  have lq1 := lcell q1
  have lp2 := lcell p2
  have lq2 := lcell q2
  have lp3 := lcell p3
  have lq3 := lcell q3
  have lp4 := lcell p4
  have lq4 := lcell q4
  refine region_perm (W := w14) 4 [0, 1] [2, 3] (by kernel_rfl) (by kernel_rfl) (Below.refl _ _) (fun d _ _ _ _ h => by cases d <;> exact h) ?_
  simp only [picks, List.getElem?_cons_succ, List.getElem?_cons_zero, List.drop_succ_cons, List.drop_zero]
  repeat (go_big_quiet_step (fail))
  refine wpQuiet_nil ?_
  intro W15 hW1
  have hb : Below w14.heap.size w14 W15 := by obtain ⟨x, rfl⟩ := hW1; exact x.below
  have HL0 := Lib.hid hb
  clear lp0 lq0 lp1 lq1 lp2 lq2 lp3 lq3 lp4 lq4
  clear p0 p1 p2 p3 p4 q0 q1 q2 q3 q4
  have HB16 := Lib.hid (bthen HB15.out hb HB15.out.size)
  have HXa_16 := Lib.hid (HXa_15.out.next hb)
  have HXb_16 := Lib.hid (HXb_15.out.next hb)
  have HXx_16 := Lib.hid (HXx_15.out.next hb)
  have HXy_16 := Lib.hid (HXy_15.out.next hb)
  have HSx_16 := Lib.hid (spots_more HSx_15.out hb)
  have HSy_16 := Lib.hid (spots_more HSy_15.out hb)
  have HSza_16 := Lib.hid (spots_more HSza_15.out hb)
  clear hW1 hb
  simp only [wpMem]
  refine wpOp_step rfl (fun K hK => ?_)
  rw [if_pos (by rfl)]
  go_simp
  refine (toCast_any _ _ _ _ B _ cb lb _ (spots_at HSb.out HB16.out) hleb).mono ?_
  rintro e w16 ⟨gw16, rfl, hO, hb⟩
  have HL1 := Lib.hid (bthen HL0.out hb HL0.out.size)
  have HB17 := Lib.hid (bthen HB16.out hb HB16.out.size)
  have HXa_17 := Lib.hid (HXa_16.out.next hb)
  have HXb_17 := Lib.hid (HXb_16.out.next hb)
  have HXx_17 := Lib.hid (HXx_16.out.next hb)
  have HXy_17 := Lib.hid (HXy_16.out.next hb)
  have HSx_17 := Lib.hid (spots_more HSx_16.out hb)
  have HSy_17 := Lib.hid (spots_more HSy_16.out hb)
  have HSza_17 := Lib.hid (spots_more HSza_16.out hb)
  have HSzb := Lib.hid (hO.spots (Nat.le_refl _))
  clear hO
  refine hK _ _ ⟨⟨⟨_, HL1.out⟩, rfl⟩, ?_⟩
  clear hK K hb
  refine wpOp_step rfl (fun K hK => ?_)
  rw [if_pos (by rfl)]
  go_simp
  refine (eqK_same _ _ _ _ _ _ _ _ _ lb _ HSy_17.out HSzb.out hmb).mono ?_
  rintro e w17 ⟨rfl, hb⟩
  have HL2 := Lib.hid (bthen HL1.out hb HL1.out.size)
  have HB18 := Lib.hid (bthen HB17.out hb HB17.out.size)
  have HXa_18 := Lib.hid (HXa_17.out.next hb)
  have HXb_18 := Lib.hid (HXb_17.out.next hb)
  have HXx_18 := Lib.hid (HXx_17.out.next hb)
  have HXy_18 := Lib.hid (HXy_17.out.next hb)
  have HSx_18 := Lib.hid (spots_more HSx_17.out hb)
  have HSy_18 := Lib.hid (spots_more HSy_17.out hb)
  have HSza_18 := Lib.hid (spots_more HSza_17.out hb)
  have HSzb_18 := Lib.hid (spots_more HSzb.out hb)
  refine hK _ _ ⟨⟨⟨_, HL2.out⟩, rfl⟩, ?_⟩
  clear hK K hb
  go_wp2_with fail
  go_ret
  exact ⟨rfl, HB18.out⟩

/-! ### The row's step. -/
set_option maxRecDepth 100000 in
theorem lifted (os : Os) (started : os.Started) (H : Type) (enc : TypeId × Value → H) :
    ReturnsInHanded {} Try.checked os 13 .any (Rows.fnExactSameLayersSpec.pre6 enc Try.prog Try.f13 Rows.fnExactSameLayersRow.domain false) (Rows.fnExactSameLayersSpec.post enc Try.prog Try.f13 false true false false) := by
  refine returnsInHanded_of_change (C := Try.checked) own started (by kernel_rfl) Try.func13
    (ChangeSpec.witness6 (enc := enc) (C := Try.checked) false ⟨#[], #[.agg #[.int .i64 0, .int .i64 0, .int .i64 0, .int .i64 0, .slice none 0 0], .agg #[.int .i64 0, .int .i64 0, .int .i64 0, .int .i64 0, .slice none 0 0], .int .i64 0], []⟩ 8 (by kernel_rfl) (by kernel_rfl) (by kernel_rfl) (by kernel_rfl)) ?_
  intro W base args ds gs before hval0 hW hcnd _
  have hval : ∀ (j : Nat) t v, Try.f13.params[j]? = some t → args[j]? = some v → Value.okWide Try.prog W .any base t v := hval0
  have hW' := hW
  obtain ⟨p, q, hA0, hV, rfl, hfz, hnd⟩ := hW
  have hA : DataW.TrodAll enc Try.prog W 0 (fun _ => true) true Try.f13.params.toList args.toList ds p := hA0
  rw [Try.params13] at hA hval
  obtain ⟨v0, vs0, d0, ds0, p0, q0, hargs, rfl, rfl, h0, r0⟩ := trodAll_cons hA
  obtain ⟨v1, vs1, d1, ds1, p1, q1, rfl, rfl, rfl, h1, r1⟩ := trodAll_cons r0
  obtain ⟨v2, vs2, d2, ds2, p2, q2, rfl, rfl, rfl, h2, r2⟩ := trodAll_cons r1
  obtain ⟨rfl, rfl, rfl⟩ := trodAll_nil r2
  obtain rfl : args = #[v0, v1, v2] := by cases args; simp_all
  obtain ⟨rfl, rfl⟩ := trodVars_none hV
  have k0 := h0
  have lt0 : ∀ x ∈ p0, x.block < W.heap.size := by obtain ⟨m, hm⟩ := k0; exact DataW.trod_lt m _ _ _ hm
  obtain ⟨id0, tm0, x0, y0, A0, n0, c0, rfl, m0, l0, w0⟩ := open_cast (hval 0 55 v0 rfl rfl) h0
  have k1 := h1
  have lt1 : ∀ x ∈ p1, x.block < W.heap.size := by obtain ⟨m, hm⟩ := k1; exact DataW.trod_lt m _ _ _ hm
  obtain ⟨id1, tm1, x1, y1, A1, n1, c1, rfl, m1, l1, w1⟩ := open_cast (hval 1 55 v1 rfl rfl) h1
  have k2 := h2
  have lt2 : ∀ x ∈ p2, x.block < W.heap.size := by obtain ⟨m, hm⟩ := k2; exact DataW.trod_lt m _ _ _ hm
  obtain ⟨x2, rfl⟩ := open_num (hval 2 3 v2 rfl rfl) h2
  clear hA0 hval0
  refine (walk id0 tm0 x0 y0 A0 n0 c0 l0 id1 tm1 x1 y1 A1 n1 c1 l1 x2 W w0 m0 w1 m1).mono fun e W1 ⟨he, bel⟩ => ?_
  subst he
  exact ⟨_, rfl, _, _, _, [], _, [], hW', trodAll_mk1 (shut_bool Try.underlying4 _), (trodAll_cons_mk (Below.trod laidOut (by kernel_rfl) (of_decide_eq_true (by kernel_rfl)) k0 bel lt0) (trodAll_cons_mk (Below.trod laidOut (by kernel_rfl) (of_decide_eq_true (by kernel_rfl)) k1 bel lt1) (trodAll_cons_mk (Below.trod laidOut (by kernel_rfl) (of_decide_eq_true (by kernel_rfl)) k2 bel lt2) trodAll_mk0))), rfl, bel.frame _, fun h => by cases h⟩

/-- The statement. -/
theorem proved : Rows.FnExactSameLayersSaid :=
  OpenClaim.holds_of_wide 13 Try.f13 rfl rfl rfl rfl rfl rfl rfl ⟨rfl, rfl, rfl, rfl, rfl⟩ rfl rfl rfl rfl rfl (by kernel_rfl) Try.func13 (by kernel_rfl)
    (of_decide_eq_true (by kernel_rfl)) (by unfold Func.isWrapper; first | (rw [if_pos (by decide +kernel)]; kernel_rfl) | (rw [if_neg (by decide +kernel)]; exact ⟨rfl, rfl⟩))
    (fun os started H enc _ => lifted os started H enc)
#print axioms proved
end Go.Proofs.Ytnpcnafjjgkfgaa.fnExactSameLayers
