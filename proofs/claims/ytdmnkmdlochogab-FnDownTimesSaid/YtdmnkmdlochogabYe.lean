/-
  Draws of layers, depths, slopes and times: contracts of spec.l1Cur.depthIn and of the draws of chapter 6 over this translation. Conditions: stated at each theorem.
-/
import Derived.Test.YtdmnkmdlochogabYa
import Derived.Test.YtdmnkmdlochogabYt
namespace Go.Proofs.Ytdmnkmdlochogab
open Go.RowKit Go.Sort
set_option linter.unusedVariables false

theorem grown_belowS {W W' : World} (h : Below W.heap.size W W') (r : Option Nat) : W.grownBy W' r := ⟨h.os, h.tape, h.output, h.size, fun k hk _ => h.block k hk⟩
theorem Cur.belowS {B : Nat} {A : Option Addr} {n c g k : Nat} {W W' : World} (h : Cur B A n c g k W) (hb : Below W.heap.size W W') : Cur B A n c g k W' :=
  h.kept (grown_belowS hb none) (by simp) (fun _ e => by cases e)
theorem pickS_any (B : Nat) (A : Option Addr) (n c g k m : Nat) (w : World) (h : Cur B A n c g k w) (hk : k < 1000000) (h1 : 0 < m) (h2 : m ≤ 200) :
    Calls Try.prog 118 #[.pointer (some ⟨g, 0, none⟩), .int .i64 m] w fun e w' => ∃ v k' : Nat, v < m ∧ k ≤ k' ∧ k' ≤ k + 1 ∧ e = .returned (.int .i64 v) ∧ Cur B A n c g k' w' ∧ w.grownBy w' (some g) := by
  rcases Nat.lt_or_ge 1 m with h3 | h3
  · refine (pick_any B A n c g k m w h hk h3 h2).mono ?_
    rintro e w' ⟨v, hv, he, hc, hg⟩
    exact ⟨v, k + 1, hv, by omega, by omega, he, hc, hg⟩
  · obtain rfl : m = 1 := by omega
    have HC := Lib.hid h
    clear h h1 h2 h3
    go_enter Try.func118, Try.ntmps118
    go_wp2_with fail
    go_ret
    exact ⟨0, k, by omega, by omega, by omega, rfl, HC.out, ⟨rfl, rfl, rfl, Nat.le_refl _, fun _ _ _ => rfl⟩⟩
theorem own2_grown {W W' : World} {lo n g : Nat} {R : Option Addr} {l : List (Int × Int)} (h : Own2 W lo W.heap.size R n l) (hg : W.grownBy W' (some g)) (hlt : g < lo) : Own2 W' lo W'.heap.size R n l :=
  ⟨h.1, fun k hk => by
    obtain ⟨b, x, y, hA, h1, h2, hl, c0, c1, f0, f1⟩ := h.2 k hk
    have hb := hg.block b h2 (fun e => by have := Option.some.inj e; omega)
    exact ⟨b, x, y, hA, h1, Nat.lt_of_lt_of_le h2 hg.size, hl, (World.cell?_of_block (a := ⟨b, _, none⟩) hb).trans c0, (World.cell?_of_block (a := ⟨b, _, none⟩) hb).trans c1, (World.frozen?_of_block (a := ⟨b, _, none⟩) hb).trans f0, (World.frozen?_of_block (a := ⟨b, _, none⟩) hb).trans f1⟩⟩
theorem SLies.draw {B : Nat} {A : Option Addr} {n c g k k' cap : Nat} {w W W' : World} {R : Option Addr} {l : List (Int × Int)} (h : SLies B A n c g w R l cap k W) (hlt : g < w.heap.size) (hc : Cur B A n c g k' W') (hg : W.grownBy W' (some g)) : SLies B A n c g w R l cap k' W' :=
  ⟨own2_grown h.1 hg hlt, h.2.1, hc, grown_trans h.2.2.2 hg⟩
theorem SLies.spots {B : Nat} {A : Option Addr} {n c g k cap : Nat} {w W : World} {R : Option Addr} {l : List (Int × Int)} (h : SLies B A n c g w R l cap k W) : Spots W W.heap.size R l.length l := h.1.spots (Nat.le_refl _)
/-- Layers that a draw hands back. -/
def Drawn6 (w : World) (R : Option Addr) (l : List (Int × Int)) (cap : Nat) (w' : World) : Prop :=
  (l.length ≤ 6 ∧ l.length ≤ maxLen ∧ l.length ≤ cap ∧ cap ≤ maxLen) ∧ Spots w' w'.heap.size R l.length l ∧ Below w.heap.size w w'
theorem drawn6_of {A : Option Addr} {n c cap k : Nat} {w W : World} {R : Option Addr} {l : List (Int × Int)} {o : Obj} (hm : l.length ≤ 6) (h : SLies w.heap.size A n c w.heap.size (w.alloc o) R l cap k W) : Drawn6 w R l cap W :=
  ⟨⟨hm, by unfold maxLen; omega, h.2.1.1, h.2.1.2⟩, h.spots, below_of ((Below.refl w.heap.size w).alloc (Nat.le_refl _) o) h.2.2.2 (by simp) (Nat.le_refl _)⟩
def DepPost (B : Nat) (A : Option Addr) (n c g k : Nat) (w : World) (e : Ending) (w' : World) : Prop :=
  ∃ (x : Int) (k' : Nat), k ≤ k' ∧ k' ≤ k + 3 ∧ e = .returned (.int .i64 x) ∧ Cur B A n c g k' w' ∧ w.grownBy w' (some g)
theorem oneS_any (B : Nat) (A : Option Addr) (n c g k m : Nat) (w : World) (h : Cur B A n c g k w) (hk : k < 1000000) (h1 : 1 < m) (h2 : m ≤ 200) :
    Calls Try.prog 133 #[.pointer (some ⟨g, 0, none⟩), .int .i64 m] w (OnePost B A n c g k w) := one_any B A n c g k m w h hk h1 h2
set_option maxRecDepth 20000 in
set_option maxHeartbeats 3200000 in
theorem depthIn_any (B : Nat) (A : Option Addr) (n c g k : Nat) (R : Option Addr) (cap : Nat) (l : List (Int × Int)) (w : World) (lo : Nat) (h : Cur B A n c g k w) (hk : k < 900000) (ho : Own2 w lo w.heap.size R l.length l) (hlo : g < lo) (h6 : l.length ≤ 6) :
    Calls Try.prog 104 #[.pointer (some ⟨g, 0, none⟩), .slice R l.length cap] w (DepPost B A n c g k w) := by
  have hm : l.length ≤ maxLen := by unfold maxLen; omega
  have HS := Lib.hid (ho.spots (Nat.le_refl _))
  have HO := Lib.hid ho
  have HC := Lib.hid h
  clear ho h
  rcases h1 : strB l with _ | _
  · have HT : Hid (tdN l = 0 ∧ strB l = false) := by unfold Hid tdN; rw [h1]; exact ⟨rfl, rfl⟩
    clear h1
    go_enter Try.func104, Try.ntmps104
    go_wp2_with fail
    refine (totalD_spec _ _ _ l _ HS.out hm).mono ?_
    rintro e w1 ⟨he, hb⟩
    rw [HT.out.1, HT.out.2] at he
    subst he
    have HC1 := Lib.hid (HC.out.belowS hb)
    have HW1 := Lib.hid (grown_belowS hb (some g))
    clear hb
    go_wp2_with fail
    refine (among_at AnyN _ _ _ _ _ _ _ 4 [-1, 0, 1, 40000] _ HC1.out rfl (by omega) (by decide) (by decide) (fun _ _ => trivial)).mono ?_
    rintro e w2 ⟨x, _, rfl, hc, hg⟩
    have HE : Hid (DepPost B A n c g k w (.returned (.int .i64 x)) w2) := Lib.hid ⟨x, _, by omega, by omega, rfl, hc, grown_trans HW1.out hg⟩
    clear hc hg
    go_wp2_with fail
    go_ret
    exact HE.out
  have HG := Lib.hid (str_parts h1).2
  have hl1 := (str_parts h1).1
  obtain ⟨hl1, hl2⟩ := hl1
  obtain ⟨T, hT⟩ : ∃ T : Nat, thk l = T := ⟨(thk l).toNat, by have := (thk_bd HG.out).1; omega⟩
  have hTb := thk_bd HG.out
  rw [hT] at hTb
  obtain ⟨hT1, hT2⟩ := hTb
  have HT : Hid (tdN l = T ∧ strB l = true) := by unfold Hid tdN; rw [h1]; exact ⟨hT, rfl⟩
  clear h1 hT
  go_enter Try.func104, Try.ntmps104
  go_wp2_with fail
  refine (totalD_spec _ _ _ l _ HS.out hm).mono ?_
  rintro e w1 ⟨he, hb⟩
  rw [HT.out.1, HT.out.2] at he
  subst he
  have HC1 := Lib.hid (HC.out.belowS hb)
  have HW1 := Lib.hid (grown_belowS hb (some g))
  have HO1 := Lib.hid ((HO.out.on hb (Nat.le_refl _)).wide (Nat.le_refl _) hb.size)
  clear hb
  go_wp2_with fail
  refine (oneS_any _ _ _ _ _ _ 10 _ HC1.out (by omega) (by decide) (by decide)).mono ?_
  rintro e w2 ⟨b, rfl, hc, hg⟩
  have HC2 := Lib.hid hc
  have HW2 := Lib.hid (grown_trans HW1.out hg)
  rcases b with _ | _
  · obtain ⟨b, x, y, rfl, _, _, _, c0, _⟩ := (own2_grown HO1.out hg hlo).2 0 (by omega)
    simp only [Nat.zero_mul] at c0
    clear hc hg
    go_wp2_with fail
    refine (among_at AnyN _ _ _ _ _ _ _ 8 [0, 1, T, T - 1, T / 2, T / 3, T + 1, x] _ HC2.out rfl (by omega) (by simp) (by simp) (fun _ _ => trivial)).mono ?_
    rintro e w3 ⟨z, _, rfl, hc, hg⟩
    have HE : Hid (DepPost B A n c g k w (.returned (.int .i64 z)) w3) := Lib.hid ⟨z, _, by omega, by omega, rfl, hc, grown_trans HW2.out hg⟩
    clear hc hg
    go_wp2_with fail
    go_ret
    exact HE.out
  · clear hc hg
    go_wp2_with fail
    refine (among_at AnyN _ _ _ _ _ _ _ 4 [-1, 0, 1, 40000] _ HC2.out rfl (by omega) (by decide) (by decide) (fun _ _ => trivial)).mono ?_
    rintro e w3 ⟨x, _, rfl, hc, hg⟩
    have HE : Hid (DepPost B A n c g k w (.returned (.int .i64 x)) w3) := Lib.hid ⟨x, _, by omega, by omega, rfl, hc, grown_trans HW2.out hg⟩
    clear hc hg
    go_wp2_with fail
    go_ret
    exact HE.out
set_option maxRecDepth 20000 in
set_option maxHeartbeats 3200000 in
theorem draw_are (A : Option Addr) (n c : Nat) (w : World) (h : CodeRow w.heap.size A n w) : Calls Try.prog 120 #[.slice A n c] w fun e w' => ∃ (R : Option Addr) (l : List (Int × Int)) (cap : Nat), e = .returned (.slice R l.length cap) ∧ Drawn6 w R l cap w' := by
  have HC0 := Lib.hid (cur_new w A n c 100 h)
  clear h
  go_enter Try.func120, Try.ntmps120
  go_wp2_with fail
  refine (strata_any _ _ _ _ _ _ _ HC0.out (by omega)).mono ?_
  rintro e w1 ⟨R, l, cap, k1, h6, hk1, hk2, rfl, hG⟩
  have HG1 := Lib.hid hG
  clear hG HC0
  go_wp2_with fail
  go_ret
  exact ⟨R, l, cap, rfl, drawn6_of h6 HG1.out⟩
set_option maxRecDepth 20000 in
set_option maxHeartbeats 3200000 in
theorem draw_total (A : Option Addr) (n c : Nat) (w : World) (h : CodeRow w.heap.size A n w) : Calls Try.prog 48 #[.slice A n c] w fun e w' => ∃ (R : Option Addr) (l : List (Int × Int)) (cap : Nat), e = .returned (.slice R l.length cap) ∧ Drawn6 w R l cap w' := by
  have HD := Lib.hid (draw_are A n c w h)
  clear h
  go_enter Try.func48, Try.ntmps48
  go_wp2_with fail
  refine HD.out.mono ?_
  rintro e w1 ⟨R, l, cap, rfl, hd⟩
  have HE := Lib.hid hd
  clear hd
  go_wp2_with fail
  go_ret
  exact ⟨R, l, cap, rfl, HE.out⟩
set_option maxRecDepth 20000 in
set_option maxHeartbeats 3200000 in
theorem draw_bend (A : Option Addr) (n c : Nat) (w : World) (h : CodeRow w.heap.size A n w) : Calls Try.prog 56 #[.slice A n c] w fun e w' => ∃ (R : Option Addr) (l : List (Int × Int)) (cap : Nat), e = .returned (.slice R l.length cap) ∧ Drawn6 w R l cap w' := by
  have HD := Lib.hid (draw_are A n c w h)
  clear h
  go_enter Try.func56, Try.ntmps56
  go_wp2_with fail
  refine HD.out.mono ?_
  rintro e w1 ⟨R, l, cap, rfl, hd⟩
  have HE := Lib.hid hd
  clear hd
  go_wp2_with fail
  go_ret
  exact ⟨R, l, cap, rfl, HE.out⟩
set_option maxRecDepth 20000 in
set_option maxHeartbeats 3200000 in
theorem draw_slopeFor (A : Option Addr) (n c : Nat) (w : World) (h : CodeRow w.heap.size A n w) : Calls Try.prog 38 #[.slice A n c] w fun e w' => ∃ (R : Option Addr) (l : List (Int × Int)) (cap : Nat) (x : Int), e = .returned (.tuple #[.slice R l.length cap, .int .i64 x]) ∧ Drawn6 w R l cap w' := by
  have HC0 := Lib.hid (cur_new w A n c 100 h)
  clear h
  go_enter Try.func38, Try.ntmps38
  go_wp2_with fail
  refine (strata_any _ _ _ _ _ _ _ HC0.out (by omega)).mono ?_
  rintro e w1 ⟨R, l, cap, k1, h6, hk1, hk2, rfl, hG⟩
  have HG1 := Lib.hid hG
  clear hG HC0
  go_wp2_with fail
  refine (among_at AnyN _ _ _ _ _ _ _ 7 [0, 1, 300, 5000, 60000, 60001, -1] _ HG1.out.2.2.1 rfl (by omega) (by decide) (by decide) (fun _ _ => trivial)).mono ?_
  rintro e w2 ⟨x2, _, rfl, hc, hg⟩
  have HG2 := Lib.hid (HG1.out.draw (by simp) hc hg)
  clear hc hg
  go_wp2_with fail
  go_ret2
  exact ⟨R, l, cap, x2, rfl, drawn6_of h6 HG2.out⟩
set_option maxRecDepth 20000 in
set_option maxHeartbeats 3200000 in
theorem draw_down (A : Option Addr) (n c : Nat) (w : World) (h : CodeRow w.heap.size A n w) : Calls Try.prog 50 #[.slice A n c] w fun e w' => ∃ (R : Option Addr) (l : List (Int × Int)) (cap : Nat) (x : Int), e = .returned (.tuple #[.slice R l.length cap, .int .i64 x]) ∧ Drawn6 w R l cap w' := by
  have HC0 := Lib.hid (cur_new w A n c 100 h)
  clear h
  go_enter Try.func50, Try.ntmps50
  go_wp2_with fail
  refine (strata_any _ _ _ _ _ _ _ HC0.out (by omega)).mono ?_
  rintro e w1 ⟨R, l, cap, k1, h6, hk1, hk2, rfl, hG⟩
  have HG1 := Lib.hid hG
  clear hG HC0
  go_wp2_with fail
  refine (depthIn_any _ _ _ _ _ _ R cap l _ (w.alloc (.cells #[.slice A n c, .int .i64 0, .int .u64 0] 100)).heap.size HG1.out.2.2.1 (by omega) HG1.out.1 (by simp) h6).mono ?_
  rintro e w2 ⟨x2, k2, hq1, hq2, rfl, hc, hg⟩
  have HG2 := Lib.hid (HG1.out.draw (by simp) hc hg)
  clear hc hg
  go_wp2_with fail
  go_ret2
  exact ⟨R, l, cap, x2, rfl, drawn6_of h6 HG2.out⟩
set_option maxRecDepth 20000 in
set_option maxHeartbeats 3200000 in
theorem draw_after (A : Option Addr) (n c : Nat) (w : World) (h : CodeRow w.heap.size A n w) : Calls Try.prog 53 #[.slice A n c] w fun e w' => ∃ (R : Option Addr) (l : List (Int × Int)) (cap : Nat) (x : Int), e = .returned (.tuple #[.slice R l.length cap, .int .i64 x]) ∧ Drawn6 w R l cap w' := by
  have HC0 := Lib.hid (cur_new w A n c 100 h)
  clear h
  go_enter Try.func53, Try.ntmps53
  go_wp2_with fail
  refine (strata_any _ _ _ _ _ _ _ HC0.out (by omega)).mono ?_
  rintro e w1 ⟨R, l, cap, k1, h6, hk1, hk2, rfl, hG⟩
  have HG1 := Lib.hid hG
  clear hG HC0
  go_wp2_with fail
  refine (among_at AnyN _ _ _ _ _ _ _ 10 [0, 1, 1, 2, 5, 12, 40, 200, 201, -1] _ HG1.out.2.2.1 rfl (by omega) (by decide) (by decide) (fun _ _ => trivial)).mono ?_
  rintro e w2 ⟨x2, _, rfl, hc, hg⟩
  have HG2 := Lib.hid (HG1.out.draw (by simp) hc hg)
  clear hc hg
  go_wp2_with fail
  go_ret2
  exact ⟨R, l, cap, x2, rfl, drawn6_of h6 HG2.out⟩
set_option maxRecDepth 20000 in
set_option maxHeartbeats 3200000 in
theorem draw_split (A : Option Addr) (n c : Nat) (w : World) (h : CodeRow w.heap.size A n w) : Calls Try.prog 45 #[.slice A n c] w fun e w' => ∃ (R : Option Addr) (l : List (Int × Int)) (cap : Nat) (x : Int), e = .returned (.tuple #[.slice R l.length cap, .int .i64 x]) ∧ Drawn6 w R l cap w' := by
  have HD := Lib.hid (draw_down A n c w h)
  clear h
  go_enter Try.func45, Try.ntmps45
  go_wp2_with fail
  refine HD.out.mono ?_
  rintro e w1 ⟨R, l, cap, x, rfl, hd⟩
  have HE := Lib.hid hd
  clear hd
  go_wp2_with fail
  go_ret2
  exact ⟨R, l, cap, x, rfl, HE.out⟩
set_option maxRecDepth 20000 in
set_option maxHeartbeats 3200000 in
theorem draw_runTo (A : Option Addr) (n c : Nat) (w : World) (h : CodeRow w.heap.size A n w) : Calls Try.prog 32 #[.slice A n c] w fun e w' => ∃ (R : Option Addr) (l : List (Int × Int)) (cap : Nat) (x y z : Int), e = .returned (.tuple #[.slice R l.length cap, .int .i64 x, .int .i64 y, .int .i64 z]) ∧ Drawn6 w R l cap w' := by
  have HC0 := Lib.hid (cur_new w A n c 100 h)
  clear h
  go_enter Try.func32, Try.ntmps32
  go_wp2_with fail
  refine (strata_any _ _ _ _ _ _ _ HC0.out (by omega)).mono ?_
  rintro e w1 ⟨R, l, cap, k1, h6, hk1, hk2, rfl, hG⟩
  have HG1 := Lib.hid hG
  clear hG HC0
  go_wp2_with fail
  refine (among_at AnyN _ _ _ _ _ _ _ 7 [0, 1, 1, 3, 50, 200, -1] _ HG1.out.2.2.1 rfl (by omega) (by decide) (by decide) (fun _ _ => trivial)).mono ?_
  rintro e w2 ⟨x2, _, rfl, hc, hg⟩
  have HG2 := Lib.hid (HG1.out.draw (by simp) hc hg)
  clear hc hg
  go_wp2_with fail
  refine (among_at AnyN _ _ _ _ _ _ _ 6 [1, 2, 4, 25, 100, 0] _ HG2.out.2.2.1 rfl (by omega) (by decide) (by decide) (fun _ _ => trivial)).mono ?_
  rintro e w3 ⟨x3, _, rfl, hc, hg⟩
  have HG3 := Lib.hid (HG2.out.draw (by simp) hc hg)
  clear hc hg
  go_wp2_with fail
  refine (depthIn_any _ _ _ _ _ _ R cap l _ (w.alloc (.cells #[.slice A n c, .int .i64 0, .int .u64 0] 100)).heap.size HG3.out.2.2.1 (by omega) HG3.out.1 (by simp) h6).mono ?_
  rintro e w4 ⟨x4, k4, hq1, hq2, rfl, hc, hg⟩
  have HG4 := Lib.hid (HG3.out.draw (by simp) hc hg)
  clear hc hg
  go_wp2_with fail
  refine bodyPost_ret (v := .tuple #[.slice R l.length cap, .int .i64 x2, .int .i64 x3, .int .i64 x4]) (by simp [results, Try.results32, go_sem]) rfl ?_
  exact ⟨R, l, cap, x2, x3, x4, rfl, drawn6_of h6 HG4.out⟩
set_option maxRecDepth 20000 in
set_option maxHeartbeats 3200000 in
theorem draw_slopeIn (A : Option Addr) (n c : Nat) (w : World) (h : CodeRow w.heap.size A n w) : Calls Try.prog 42 #[.slice A n c] w fun e w' => ∃ (R : Option Addr) (l : List (Int × Int)) (cap : Nat) (x y z : Int), e = .returned (.tuple #[.slice R l.length cap, .int .i64 x, .int .i64 y, .int .i64 z]) ∧ Drawn6 w R l cap w' := by
  have HC0 := Lib.hid (cur_new w A n c 100 h)
  clear h
  go_enter Try.func42, Try.ntmps42
  go_wp2_with fail
  refine (strata_any _ _ _ _ _ _ _ HC0.out (by omega)).mono ?_
  rintro e w1 ⟨R, l, cap, k1, h6, hk1, hk2, rfl, hG⟩
  have HG1 := Lib.hid hG
  clear hG HC0
  go_wp2_with fail
  refine (pickS_any _ _ _ _ _ _ (l.length + 1) _ HG1.out.2.2.1 (by omega) (by omega) (by omega)).mono ?_
  rintro e w2 ⟨v2, k2, hv2, hq1, hq2, rfl, hc, hg⟩
  have HG2 := Lib.hid (HG1.out.draw (by simp) hc hg)
  clear hc hg
  go_wp2_with fail
  refine (pick_any _ _ _ _ _ _ 9 _ HG2.out.2.2.1 (by omega) (by decide) (by decide)).mono ?_
  rintro e w3 ⟨v3, hv3, rfl, hc, hg⟩
  have HG3 := Lib.hid (HG2.out.draw (by simp) hc hg)
  clear hc hg
  go_wp2_with fail
  refine (among_at AnyN _ _ _ _ _ _ _ 7 [0, 1, 1, 3, 50, 200, 201] _ HG3.out.2.2.1 rfl (by omega) (by decide) (by decide) (fun _ _ => trivial)).mono ?_
  rintro e w4 ⟨x4, _, rfl, hc, hg⟩
  have HG4 := Lib.hid (HG3.out.draw (by simp) hc hg)
  clear hc hg
  go_wp2_with fail
  refine (among_at AnyN _ _ _ _ _ _ _ 7 [1, 2, 4, 25, 100, 0, 101] _ HG4.out.2.2.1 rfl (by omega) (by decide) (by decide) (fun _ _ => trivial)).mono ?_
  rintro e w5 ⟨x5, _, rfl, hc, hg⟩
  have HG5 := Lib.hid (HG4.out.draw (by simp) hc hg)
  clear hc hg
  go_wp2_with fail
  refine bodyPost_ret (v := .tuple #[.slice R l.length cap, .int .i64 ((v2 : Int) - (v3 : Int) / 8), .int .i64 x4, .int .i64 x5]) (by simp [results, Try.results42, go_sem]) rfl ?_
  exact ⟨R, l, cap, _, x4, x5, rfl, drawn6_of h6 HG5.out⟩
end Go.Proofs.Ytdmnkmdlochogab
