/-
  Contract of impl.SpotsIn over this translation. Conditions: stated at the theorem.
-/
import Derived.Test.YtjnimedbjmihaaaIn
namespace Go.Proofs.Ytjnimedbjmihaaa
open Go.RowKit Go.Sort

theorem in_start2 (a b c d : Int) (l : List (Int × Int)) (w w2 : World) (hb : Below w.heap.size w w2) (hh : Has w2 w.heap.size [.int .i64 a, .int .i64 b, .int .i64 c, .int .i64 d]) : InRel a b c d l w 0 (.slice (some ⟨w2.heap.size, 0, none⟩) 0 0) (w2.alloc (.cells #[] 3)) :=
  ⟨World.ownsRow_made (base := w.heap.size + 1) (e := 3) (size := 1) w2 #[] 0 hh.1 (by unfold maxLen; omega) (by simp), hb.alloc hb.size _, hh.alloc _⟩
set_option maxRecDepth 20000 in
set_option maxHeartbeats 1600000 in
theorem in_impl (A : Option Addr) (cap : Nat) (l : List (Int × Int)) (a b c d : Int) (w : World) (hs : Spots w w.heap.size A l.length l) (hm : l.length ≤ maxLen) :
    Calls Try.prog 25 #[.slice A l.length cap, .agg #[.int .i64 a, .int .i64 b, .int .i64 c, .int .i64 d]] w (InPost a b c d l w) := by
  obtain ⟨i0, hi, hz0, hz1, hz2⟩ := info_parts info3
  have HI := Lib.hid (And.intro hi (And.intro hz0 (And.intro hz1 hz2)))
  clear hi hz0 hz1 hz2
  have HS := Lib.hid hs
  clear hs
  rcases h1 : spotsB l with _ | _
  · have H1 := Lib.hid h1
    have HO : Hid (inOk a b c d l = false) := by unfold Hid inOk; rw [h1]; rfl
    clear h1
    go_enter Try.func25, Try.ntmps25
    go_wp2_with fail
    refine (are_impl_v _ _ _ _ l _ (spots_alloc HS.out _) hm H1.out).mono ?_
    rintro e w1 ⟨rfl, hb⟩
    have HX1 := Lib.hid (box1 hb)
    clear hb
    go_wp2_with fail
    go_ret2
    exact in_no HO.out _ _ (HX1.out.1.alloc HX1.out.1.size _)
  rcases h2 : boxB a b c d with _ | _
  · have H1 := Lib.hid h1
    have H2 := Lib.hid h2
    have HO : Hid (inOk a b c d l = false) := by unfold Hid inOk; rw [h1, h2]; rfl
    clear h1 h2
    go_enter Try.func25, Try.ntmps25
    go_wp2_with fail
    refine (are_impl_v _ _ _ _ l _ (spots_alloc HS.out _) hm H1.out).mono ?_
    rintro e w1 ⟨rfl, hb⟩
    have HX1 := Lib.hid (box1 hb)
    clear hb
    have c0 := HX1.out.2.at_ 0 _ rfl
    have c1 := HX1.out.2.at_ 1 _ rfl
    have c2 := HX1.out.2.at_ 2 _ rfl
    have c3 := HX1.out.2.at_ 3 _ rfl
    go_wp2_with fail
    refine (isBox_impl_w a b c d _ H2.out _).mono ?_
    rintro e w2 ⟨rfl, hb⟩
    have HX2 := Lib.hid (And.intro (bthen HX1.out.1 hb HX1.out.1.size) (HX1.out.2.next hb))
    clear hb c0 c1 c2 c3
    go_wp2_with fail
    go_ret2
    exact in_no HO.out _ _ (HX2.out.1.alloc HX2.out.1.size _)
  have H1 := Lib.hid h1
  have H2 := Lib.hid h2
  have HO : Hid (inOk a b c d l = true) := by unfold Hid inOk; rw [h1, h2]; rfl
  have h12 : l.length ≤ 12 := (spotsB_all h1).1
  clear h1 h2
  go_enter Try.func25, Try.ntmps25
  go_wp2_with fail
  refine (are_impl_v _ _ _ _ l _ (spots_alloc HS.out _) hm H1.out).mono ?_
  rintro e w1 ⟨rfl, hb⟩
  have HX1 := Lib.hid (box1 hb)
  clear hb
  have c0 := HX1.out.2.at_ 0 _ rfl
  have c1 := HX1.out.2.at_ 1 _ rfl
  have c2 := HX1.out.2.at_ 2 _ rfl
  have c3 := HX1.out.2.at_ 3 _ rfl
  go_wp2_with fail
  refine (isBox_impl_w a b c d _ H2.out _).mono ?_
  rintro e w2 ⟨rfl, hb⟩
  have HX2 := Lib.hid (And.intro (bthen HX1.out.1 hb HX1.out.1.size) (HX1.out.2.next hb))
  clear hb c0 c1 c2 c3
  have HR2 := Lib.hid (in_start2 a b c d l w w2 HX2.out.1 HX2.out.2)
  clear HX1 HX2
  unfold maxLen at hm
  go_wp2_with fail
  go_loopw [6, 21] (fun s i wr => ∃ (k : Nat) (v : Value), k ≤ l.length ∧ i = .int .i64 k ∧ s = v ∧ Hid (InRel a b c d l w k v wr)) (fun _ i _ => l.length - (intOf i).toNat)
  case atStart => exact ⟨0, _, Nat.zero_le _, rfl, rfl, HR2⟩
  case round =>
    obtain ⟨k, v, hk, rfl, rfl, hR⟩ := hrel
    by_cases hlt : k < l.length
    · obtain ⟨b0, o0, x, y, rfl, hb0, hl, e0, e1⟩ := (HS.out.on hR.out.2.1 (Nat.le_refl _)).2 k hlt
      have HL := Lib.hid hl
      have hlen := inK_len a b c d l k
      clear hl
      have HB := hR.out.2.2.alloc (.cells #[.int .i64 x, .int .i64 y] 26)
      have c0 := HB.at_ 0 _ rfl
      have c1 := HB.at_ 1 _ rfl
      have c2 := HB.at_ 2 _ rfl
      have c3 := HB.at_ 3 _ rfl
      clear HB
      go_wp2_with fail
      rcases hv : inBoxB a b c d x y with _ | _
      · have HV := Lib.hid hv
        clear hv
        refine (inBox_impl_v _ _ _ _ _ _ _ HV.out _).mono ?_
        rintro e w4 ⟨rfl, hb⟩
        have HR1 := Lib.hid (((hR.out.next ((Below.refl _ _).alloc (Nat.le_refl _) _)).next hb).skip HL.out HV.out)
        clear hb c0 c1 c2 c3 e0 e1
        go_wp2_with fail
        go_roundw
        case rel => exact ⟨k + 1, _, by omega, by go_num, rfl, HR1⟩
        case measure => simp [intOf]; omega
      · have HV := Lib.hid hv
        clear hv
        refine (inBox_impl_v _ _ _ _ _ _ _ HV.out _).mono ?_
        rintro e w4 ⟨rfl, hb⟩
        have HR1 := Lib.hid ((hR.out.next ((Below.refl _ _).alloc (Nat.le_refl _) _)).next hb)
        clear hb c0 c1 c2 c3 e0 e1
        go_wp2_with (at_builtin; refine wpList_append_own _ rfl _ _ 38 rfl (w.heap.size + 1) 3 i0 (.int .i64 0) 1 8 Try.underlying38 HI.out.1 HI.out.2.1 HI.out.2.2.1 HI.out.2.2.2 rfl (by decide) _ _ _ rfl (HR1.out.1.alloc _) ⟨w4.heap.size, 0, none⟩ 1 1 [.int .i64 k] rfl rfl (cell_one_new _ _ _) (by simp [Value.oneCell']) (by unfold maxLen; omega) (by omega) (by have := HR1.out.2.1.size; simp; omega) ?_; intro v' w5 hown' hgrow _; have HN := Lib.hid (HR1.out.step hown' hgrow HL.out HV.out); clear hown' hgrow)
        go_roundw
        case rel => exact ⟨k + 1, _, by omega, by go_num, rfl, HN⟩
        case measure => simp [intOf]; omega
    · obtain rfl : k = l.length := by omega
      have HF := Lib.hid (in_yes HO.out (own_base hR.out.1 (Nat.le_succ _)) hR.out.2.1)
      go_wp2_with fail
      go_ret2
      exact HF.out
end Go.Proofs.Ytjnimedbjmihaaa
