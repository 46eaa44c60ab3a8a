/-
  Contracts of spec.VerifyChecksum and impl.VerifyChecksum over this translation. Conditions: stated at each theorem.
-/
import Derived.Test.YtcnpbhbhklmifaaDoorSplit
import Derived.RangeFuncBox
namespace Go.Proofs.YtcnpbhbhklmifaaDoor
open Go.RowKit Go.Sort

def FirstPost (b : UInt8) (s : ByteArray) (w : World) (e : Ending) (w' : World) : Prop :=
  ∃ g n cap, e = .returned (.slice (some ⟨g, 0, none⟩) (n + 1) cap) ∧ w'.cell? ⟨g, 0, none⟩ = some (.string (headB b s)) ∧ Below w.heap.size w w'
theorem split_first (s : ByteArray) (b : UInt8) (n : Int) (hn : n = (b.toNat : Int)) (w : World) (hs : s.size ≤ 4000) :
    Calls Tryd.prog 36 #[.string s, .int .u8 n] w (FirstPost b s w) := by
  refine (split_any s b n hn w hs).mono fun e w' ⟨v, he, hr, hB⟩ => ?_
  obtain ⟨r, hr'⟩ := splitL_head b s.data.toList
  rw [hr'] at hr
  have hr2 : w'.ownsRow w.heap.size 9 1 v (r.length + 1) (strV (s.data.toList.takeWhile (fun c => c != b)) :: r.map strV) := hr
  obtain ⟨g, cap, hv⟩ := ownsRow_succ hr2
  subst hv
  have hc := hr2.cells (g := g) rfl 0 _ rfl
  exact ⟨g, r.length, cap, he, hc, hB⟩
def CutPost (s : ByteArray) (w : World) (e : Ending) (w' : World) : Prop :=
  ∃ u f, e = .returned (.tuple #[.string (headB 35 s), .string u, .bool f]) ∧ ∃ k, w' = w.drewN k
theorem cut_any (s : ByteArray) (w : World) (hs : s.size ≤ 1048576) : Calls Tryd.prog 35 #[.string s, .string ⟨#[35]⟩] w (CutPost s w) := by
  by_cases h : (35 : UInt8) ∈ s.data.toList
  · have h0 := (mem_indexByte _ _).1 h
    obtain ⟨o, ho⟩ : ∃ o : Nat, Lib.indexByte s.data.toList 35 = o := ⟨(Lib.indexByte s.data.toList 35).toNat, by omega⟩
    refine (cut_yes s 35 w o ho hs).mono fun e w' ⟨he, hk⟩ => ⟨s.extract (o + 1) s.size, true, ?_, hk⟩
    rw [headB_extract 35 s o ho]; exact he
  · refine (cut_no s 35 w h).mono fun e w' ⟨he, hk⟩ => ⟨⟨#[]⟩, false, ?_, hk⟩
    rw [headB_all 35 s h]; exact he
set_option maxHeartbeats 400000 in
theorem ver_spec_long (s : ByteArray) (w : World) (hs : (4000 : Int) < s.size) :
    Calls Tryd.prog 20 #[.string s] w fun e w' => e = .returned (.tuple #[.string ⟨#[]⟩, .bool false]) ∧ w = w' := by
  go_enter Tryd.func20, Tryd.ntmps20
  go_wp2
  go_ret2
  exact ⟨rfl, rfl⟩
set_option maxHeartbeats 400000 in
theorem ver_spec_yes (s : ByteArray) (w : World) (hs : s.size ≤ 4000) (h : sealB (headB 35 s) = s) :
    Calls Tryd.prog 20 #[.string s] w fun e w' => e = .returned (.tuple #[.string (headB 35 s), .bool true]) ∧ Below w.heap.size w w' := by
  have hz := headB_size 35 s
  have HS := Lib.hid (fun W : World => seal_any (headB 35 s) W (by omega))
  clear hz
  go_enter Tryd.func20, Tryd.ntmps20
  go_wp2_with (first
    | (go_at_call 36; refine (split_first s 35 _ rfl _ hs).mono ?_; rintro e w' ⟨g, n, cap, rfl, hc, hb⟩; have HB := Lib.hid hb; clear hb)
    | (go_at_call 34; refine (HS.out _).mono ?_; rintro e w' ⟨rfl, k, rfl⟩))
  go_ret2
  exact ⟨rfl, HB.out.trans (below_drewN _ _ |>.mono HB.out.size)⟩
theorem ba_ne {a b : ByteArray} (h : a ≠ b) : (a.toList == b.toList) = false := by
  refine beq_eq_false_iff_ne.2 fun e => h ?_
  rw [ByteArray.toList_eq, ByteArray.toList_eq] at e
  exact ByteArray.ext (Array.toList_inj.1 e)
set_option maxHeartbeats 400000 in
theorem ver_spec_no (s : ByteArray) (w : World) (hs : s.size ≤ 4000) (h : sealB (headB 35 s) ≠ s) :
    Calls Tryd.prog 20 #[.string s] w fun e w' => e = .returned (.tuple #[.string ⟨#[]⟩, .bool false]) ∧ Below w.heap.size w w' := by
  have hne := ba_ne h
  clear h
  have hz := headB_size 35 s
  have HS := Lib.hid (fun W : World => seal_any (headB 35 s) W (by omega))
  clear hz
  go_enter Tryd.func20, Tryd.ntmps20
  go_wp2_with (first
    | (go_at_call 36; refine (split_first s 35 _ rfl _ hs).mono ?_; rintro e w' ⟨g, n, cap, rfl, hc, hb⟩; have HB := Lib.hid hb; clear hb)
    | (go_at_call 34; refine (HS.out _).mono ?_; rintro e w' ⟨rfl, k, rfl⟩))
  go_ret2
  exact ⟨rfl, HB.out.trans (below_drewN _ _ |>.mono HB.out.size)⟩
/-! ### impl.VerifyChecksum -/
set_option maxHeartbeats 400000 in
theorem ver_impl_yes (s : ByteArray) (w : World) (hs : s.size ≤ 1048576) (h : sealB (headB 35 s) = s) (hz : Sealable (headB 35 s)) (ht : Pow10 w) :
    Calls Tryd.prog 18 #[.string s] w fun e w' => e = .returned (.tuple #[.string (headB 35 s), .bool true]) ∧ Below w.heap.size w w' := by
  have HT := Lib.hid ht
  have HA := Lib.hid (fun (W : World) (hp : Pow10 W) => app_impl_yes (headB 35 s) W hz hp)
  clear ht hz
  go_enter Tryd.func18, Tryd.ntmps18
  go_wp2_with (first
    | (go_at_call 35; refine (cut_any s _ hs).mono ?_; rintro e w' ⟨u, f, rfl, k, rfl⟩)
    | (go_at_call 16; refine (HA.out _ (by exact tabIs_below HT.out (below_drewN _ _))).mono ?_; rintro e w' ⟨rfl, hb⟩; have HB := Lib.hid ((below_drewN w k).trans hb); clear hb))
  go_ret2
  exact ⟨rfl, HB.out⟩
set_option maxHeartbeats 400000 in
theorem ver_impl_not (s : ByteArray) (w : World) (hs : s.size ≤ 1048576) (hz : ¬ Sealable (headB 35 s)) (ht : Pow10 w) :
    Calls Tryd.prog 18 #[.string s] w fun e w' => e = .returned (.tuple #[.string ⟨#[]⟩, .bool false]) ∧ Below w.heap.size w w' := by
  have HT := Lib.hid ht
  have hz1 := headB_size 35 s
  have HA := Lib.hid (fun (W : World) (hp : Pow10 W) => app_impl_no (headB 35 s) W (by omega) hz hp)
  clear ht hz hz1
  go_enter Tryd.func18, Tryd.ntmps18
  go_wp2_with (first
    | (go_at_call 35; refine (cut_any s _ hs).mono ?_; rintro e w' ⟨u, f, rfl, k, rfl⟩)
    | (go_at_call 16; refine (HA.out _ (by exact tabIs_below HT.out (below_drewN _ _))).mono ?_; rintro e w' ⟨rfl, hb⟩; have HB := Lib.hid ((below_drewN w k).trans hb); clear hb))
  go_ret2
  exact ⟨rfl, HB.out⟩
set_option maxHeartbeats 400000 in
theorem ver_impl_no (s : ByteArray) (w : World) (hs : s.size ≤ 1048576) (h : sealB (headB 35 s) ≠ s) (ht : Pow10 w) :
    Calls Tryd.prog 18 #[.string s] w fun e w' => e = .returned (.tuple #[.string ⟨#[]⟩, .bool false]) ∧ Below w.heap.size w w' := by
  by_cases hz : Sealable (headB 35 s)
  · have hne := ba_ne h
    have HT := Lib.hid ht
    have HA := Lib.hid (fun (W : World) (hp : Pow10 W) => app_impl_yes (headB 35 s) W hz hp)
    clear ht hz h
    go_enter Tryd.func18, Tryd.ntmps18
    go_wp2_with (first
      | (go_at_call 35; refine (cut_any s _ hs).mono ?_; rintro e w' ⟨u, f, rfl, k, rfl⟩)
      | (go_at_call 16; refine (HA.out _ (by exact tabIs_below HT.out (below_drewN _ _))).mono ?_; rintro e w' ⟨rfl, hb⟩; have HB := Lib.hid ((below_drewN w k).trans hb); clear hb))
    go_ret2
    exact ⟨rfl, HB.out⟩
  · exact ver_impl_not s w hs hz ht
/-! ### One word for both -/
/-- The texts that VerifyChecksum takes. -/
def Verifiable (s : ByteArray) : Prop := s.size ≤ 4000 ∧ sealB (headB 35 s) = s
theorem Verifiable.sealable {s : ByteArray} (h : Verifiable s) : Sealable (headB 35 s) := by
  obtain ⟨h1, h2⟩ := h
  have h3 := headB_size 35 s
  exact ⟨by omega, headB_no 35 s, by rw [h2]; exact h1⟩
theorem ver_spec_ok (s : ByteArray) (w : World) (h : Verifiable s) :
    Calls Tryd.prog 20 #[.string s] w fun e w' => e = .returned (.tuple #[.string (headB 35 s), .bool true]) ∧ Below w.heap.size w w' := ver_spec_yes s w h.1 h.2
theorem ver_spec_bad (s : ByteArray) (w : World) (h : ¬ Verifiable s) :
    Calls Tryd.prog 20 #[.string s] w fun e w' => e = .returned (.tuple #[.string ⟨#[]⟩, .bool false]) ∧ Below w.heap.size w w' := by
  by_cases h1 : s.size ≤ 4000
  · exact ver_spec_no s w h1 (fun e => h ⟨h1, e⟩)
  · exact (ver_spec_long s w (by omega)).mono fun e w' ⟨he, hw⟩ => ⟨he, by rw [← hw]; exact Below.refl _ _⟩
theorem ver_impl_ok (s : ByteArray) (w : World) (h : Verifiable s) (ht : Pow10 w) :
    Calls Tryd.prog 18 #[.string s] w fun e w' => e = .returned (.tuple #[.string (headB 35 s), .bool true]) ∧ Below w.heap.size w w' :=
  ver_impl_yes s w (by have := h.1; omega) h.2 h.sealable ht
theorem ver_impl_bad (s : ByteArray) (w : World) (hs : s.size ≤ 1048576) (h : ¬ Verifiable s) (ht : Pow10 w) :
    Calls Tryd.prog 18 #[.string s] w fun e w' => e = .returned (.tuple #[.string ⟨#[]⟩, .bool false]) ∧ Below w.heap.size w w' := by
  by_cases h2 : sealB (headB 35 s) = s
  · refine ver_impl_not s w hs (fun hz => h ⟨?_, h2⟩) ht
    have := hz.2.2
    rwa [h2] at this
  · exact ver_impl_no s w hs h2 ht
end Go.Proofs.YtcnpbhbhklmifaaDoor
